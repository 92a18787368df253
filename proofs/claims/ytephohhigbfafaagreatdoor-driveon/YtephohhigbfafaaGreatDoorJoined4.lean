/-
  The texts CvTells, CvLeaves, CvWrong, CvFirst, Regions, Fields, FieldsK, Named, FieldsAll, Code, one behind the other, with what is used of them.
-/
import Derived.Test.YtephohhigbfafaaGreatDoorJoined3
import Derived.Test.YtephohhigbfafaaGreatDoorRows
import Derived.WalkKit
import Derived.Deep.LoopGhost
import Derived.Test.YtephohhigbfafaaGreatDoorJoined0
import Derived.Deep.RegionHeld3
namespace Go.Proofs.YtephohhigbfafaaGreatDoor
section
open Go.RowKit
set_option linter.unusedSimpArgs false
set_option linter.unusedVariables false
set_option maxRecDepth 8000
set_option maxHeartbeats 1000000 in
theorem Jnc (M : Nat) (C : Array Value) (a b c n : Int) (w : World) (hC16 : C.size = 16) (xa xb : Bool) (a0 : 0 ≤ a) (a1 : a < 8) (b0 : 0 ≤ b) (b1 : b < 8) (ka : C[a.toNat * 2 + 1]? = some (.bool xa)) (kb : C[b.toNat * 2 + 1]? = some (.bool xb)) :
    Calls Tryz.prog 111 #[.pointer (some ⟨M, 0, none⟩), .agg #[V 3, V a, V b, V c, V n], .agg C] w fun e w' => e = .returned (.bool (xb)) ∧ More w w' := by
  obtain ⟨W, HW⟩ : ∃ W : World, Hid (W = (w.alloc (.cells #[V 3, V a, V b, V c, V n] 41)).alloc (.cells C 139)) := ⟨_, rfl⟩
  have HB : Hid (Blk W w.heap.size #[V 3, V a, V b, V c, V n] 41 ∧ Blk W (w.heap.size + 1) C 139 ∧ More w W) := by
    rw [HW.out]
    exact ⟨(Blk.last _ _ _).alloc _ _, (by simpa using Blk.last (w.alloc (.cells #[V 3, V a, V b, V c, V n] 41)) C 139), ((More.refl _).alloc _ _).alloc _ _⟩
  obtain ⟨S, HS⟩ : ∃ S : World → Prop, Hid (∀ w', S w' ↔ More W w') := ⟨_, fun _ => Iff.rfl⟩
  have HS0 : S W.drew := (HS.out _).2 (More.refl _).drew
  have hne : Nonempty { w' // S w' } := ⟨⟨_, HS0⟩⟩
  have k1 : ∀ i : { w' // S w' }, i.val.cell? ⟨w.heap.size, 1, none⟩ = some (V a) := fun i => (HB.out.1.more ((HS.out _).1 i.property)).cell rfl
  have k2 : ∀ i : { w' // S w' }, i.val.cell? ⟨w.heap.size, 2, none⟩ = some (V b) := fun i => (HB.out.1.more ((HS.out _).1 i.property)).cell rfl
  have k3 : ∀ i : { w' // S w' }, i.val.cell? ⟨w.heap.size + 1, a.toNat * 2 + 1, none⟩ = some (.bool xa) := fun i => (HB.out.2.1.more ((HS.out _).1 i.property)).cell ka
  have k4 : ∀ i : { w' // S w' }, i.val.cell? ⟨w.heap.size + 1, b.toNat * 2 + 1, none⟩ = some (.bool xb) := fun i => (HB.out.2.1.more ((HS.out _).1 i.property)).cell kb
  obtain ⟨wd, Hwd⟩ : ∃ w_ : World, Hid (w_ = W.drew) := ⟨_, rfl⟩
  have Hmd : Hid (More w wd ∧ Blk wd w.heap.size #[V 3, V a, V b, V c, V n] 41 ∧ Blk wd (w.heap.size + 1) C 139) := by
    have m : More W wd := Hwd.out ▸ (More.refl W).drew
    exact ⟨HB.out.2.2.trans m, HB.out.1.more m, HB.out.2.1.more m⟩
  have i0 : wd.cell? ⟨w.heap.size, 0, none⟩ = some (V 3) := Hmd.out.2.1.cell rfl
  have i3 : wd.cell? ⟨w.heap.size, 3, none⟩ = some (V c) := Hmd.out.2.1.cell rfl
  clear ka kb
  go_enter Tryz.func111, Tryz.ntmps111
  go_wp2_with (fail)
  rw [← HW.out]
  clear hC16
  refine J03 (S := S) [(0, true), (1, true), (2, true), (3, true), (4, true), (5, true), (6, true), (7, true), (8, true), (9, true), (10, true), (11, true)] (by kernel_rfl) (by kernel_rfl) (by kernel_rfl) HS0 ?_
  iterate 12 (refine J01 rfl (by kernel_rfl) (fun K hK => ?_); go_simp; refine hK _ _ ?_; clear hK K)
  refine J07 ?_
  rw [← Hwd.out]
  clear k1 k2 k3 k4 hne HS0
  cases xb
  all_goals
    go_wp2
    go_ret
    exact ⟨rfl, by repeat (first | exact Hmd.out.1 | apply More.drew | apply More.alloc)⟩

set_option maxHeartbeats 1000000 in
theorem Jnd (M : Nat) (C : Array Value) (a b c n : Int) (w : World) (hC16 : C.size = 16) (xa xb : Bool) (a0 : 0 ≤ a) (a1 : a < 8) (b0 : 0 ≤ b) (b1 : b < 8) (ka : C[a.toNat * 2 + 1]? = some (.bool xa)) (kb : C[b.toNat * 2 + 1]? = some (.bool xb)) (xr : Bool) (rb ro rl rc : Nat) (hM : w.cell? ⟨M, 0, none⟩ = some (.slice (some ⟨rb, ro, none⟩) rl rc)) (c0 : 0 ≤ c) (c1 : c < rl) (kr : w.cell? ⟨rb, ro + c.toNat * 2 + 1, none⟩ = some (.bool xr)) :
    Calls Tryz.prog 111 #[.pointer (some ⟨M, 0, none⟩), .agg #[V 4, V a, V b, V c, V n], .agg C] w fun e w' => e = .returned (.bool (xb || (xa && !xr))) ∧ More w w' := by
  obtain ⟨W, HW⟩ : ∃ W : World, Hid (W = (w.alloc (.cells #[V 4, V a, V b, V c, V n] 41)).alloc (.cells C 139)) := ⟨_, rfl⟩
  have HB : Hid (Blk W w.heap.size #[V 4, V a, V b, V c, V n] 41 ∧ Blk W (w.heap.size + 1) C 139 ∧ More w W) := by
    rw [HW.out]
    exact ⟨(Blk.last _ _ _).alloc _ _, (by simpa using Blk.last (w.alloc (.cells #[V 4, V a, V b, V c, V n] 41)) C 139), ((More.refl _).alloc _ _).alloc _ _⟩
  obtain ⟨S, HS⟩ : ∃ S : World → Prop, Hid (∀ w', S w' ↔ More W w') := ⟨_, fun _ => Iff.rfl⟩
  have HS0 : S W.drew := (HS.out _).2 (More.refl _).drew
  have hne : Nonempty { w' // S w' } := ⟨⟨_, HS0⟩⟩
  have k1 : ∀ i : { w' // S w' }, i.val.cell? ⟨w.heap.size, 1, none⟩ = some (V a) := fun i => (HB.out.1.more ((HS.out _).1 i.property)).cell rfl
  have k2 : ∀ i : { w' // S w' }, i.val.cell? ⟨w.heap.size, 2, none⟩ = some (V b) := fun i => (HB.out.1.more ((HS.out _).1 i.property)).cell rfl
  have k3 : ∀ i : { w' // S w' }, i.val.cell? ⟨w.heap.size + 1, a.toNat * 2 + 1, none⟩ = some (.bool xa) := fun i => (HB.out.2.1.more ((HS.out _).1 i.property)).cell ka
  have k4 : ∀ i : { w' // S w' }, i.val.cell? ⟨w.heap.size + 1, b.toNat * 2 + 1, none⟩ = some (.bool xb) := fun i => (HB.out.2.1.more ((HS.out _).1 i.property)).cell kb
  obtain ⟨wd, Hwd⟩ : ∃ w_ : World, Hid (w_ = W.drew) := ⟨_, rfl⟩
  have Hmd : Hid (More w wd ∧ Blk wd w.heap.size #[V 4, V a, V b, V c, V n] 41 ∧ Blk wd (w.heap.size + 1) C 139) := by
    have m : More W wd := Hwd.out ▸ (More.refl W).drew
    exact ⟨HB.out.2.2.trans m, HB.out.1.more m, HB.out.2.1.more m⟩
  have i0 : wd.cell? ⟨w.heap.size, 0, none⟩ = some (V 4) := Hmd.out.2.1.cell rfl
  have i3 : wd.cell? ⟨w.heap.size, 3, none⟩ = some (V c) := Hmd.out.2.1.cell rfl
  have hM' := Hmd.out.1.cell hM
  have kr' := Hmd.out.1.cell kr
  clear hM kr
  clear ka kb
  go_enter Tryz.func111, Tryz.ntmps111
  go_wp2_with (fail)
  rw [← HW.out]
  clear hC16
  refine J03 (S := S) [(0, true), (1, true), (2, true), (3, true), (4, true), (5, true), (6, true), (7, true), (8, true), (9, true), (10, true), (11, true)] (by kernel_rfl) (by kernel_rfl) (by kernel_rfl) HS0 ?_
  iterate 12 (refine J01 rfl (by kernel_rfl) (fun K hK => ?_); go_simp; refine hK _ _ ?_; clear hK K)
  refine J07 ?_
  rw [← Hwd.out]
  clear k1 k2 k3 k4 hne HS0
  obtain ⟨T, HT⟩ : ∃ T : World → Prop, Hid (∀ w', T w' ↔ More wd w') := ⟨_, fun _ => Iff.rfl⟩
  have HT0 : T wd.drew := (HT.out _).2 (More.refl _).drew
  have hne : Nonempty { w' // T w' } := ⟨⟨_, HT0⟩⟩
  have l1 : ∀ i : { w' // T w' }, i.val.cell? ⟨w.heap.size, 3, none⟩ = some (V c) := fun i => ((HT.out _).1 i.property).cell i3
  have l2 : ∀ i : { w' // T w' }, i.val.cell? ⟨M, 0, none⟩ = some (.slice (some ⟨rb, ro, none⟩) rl rc) := fun i => ((HT.out _).1 i.property).cell hM'
  have l3 : ∀ i : { w' // T w' }, i.val.cell? ⟨rb, ro + c.toNat * 2 + 1, none⟩ = some (.bool xr) := fun i => ((HT.out _).1 i.property).cell kr'
  cases xb with
  | true =>
    go_wp2_with (fail)
    refine J03 (S := T) [(0, true), (1, true), (2, true), (3, true), (4, true), (5, true), (6, true), (7, true), (8, true), (9, true), (10, true), (11, true), (12, true), (13, true), (14, true), (15, true), (16, true), (17, true)] (by kernel_rfl) (by kernel_rfl) (by kernel_rfl) HT0 ?_
    iterate 2 (refine J01 rfl (by kernel_rfl) (fun K hK => ?_); go_simp; refine hK _ _ ?_; clear hK K)
    iterate 14 (refine J24 rfl HT0 (by kernel_rfl) (by kernel_rfl) ?_)
    iterate 1 (refine J1h rfl rfl (by kernel_rfl) rfl (fun K hK => ?_); go_simp; refine hK _ _ ?_; clear hK K)
    iterate 1 (refine J01 rfl (by kernel_rfl) (fun K hK => ?_); go_simp; refine hK _ _ ?_; clear hK K)
    refine J07 ?_
    clear l1 l2 l3 hne HT0
    go_wp2
    go_ret
    exact ⟨by simp, Hmd.out.1.drew⟩
  | false =>
   cases xa with
   | false =>
    go_wp2_with (fail)
    refine J03 (S := T) [(0, true), (1, true), (2, true), (3, true), (4, true), (5, true), (6, true), (7, true), (8, true), (9, true), (10, true), (11, true), (12, true), (13, true), (14, true), (15, true), (16, true), (17, true)] (by kernel_rfl) (by kernel_rfl) (by kernel_rfl) HT0 ?_
    iterate 4 (refine J01 rfl (by kernel_rfl) (fun K hK => ?_); go_simp; refine hK _ _ ?_; clear hK K)
    iterate 11 (refine J24 rfl HT0 (by kernel_rfl) (by kernel_rfl) ?_)
    iterate 1 (refine J0z rfl rfl (by kernel_rfl) rfl (fun K hK => ?_); go_simp; refine hK _ _ ?_; clear hK K)
    iterate 1 (refine J0z rfl rfl (by kernel_rfl) rfl (fun K hK => ?_); go_simp; refine hK _ _ ?_; clear hK K)
    iterate 1 (refine J01 rfl (by kernel_rfl) (fun K hK => ?_); go_simp; refine hK _ _ ?_; clear hK K)
    refine J07 ?_
    clear l1 l2 l3 hne HT0
    go_wp2
    go_ret
    exact ⟨by simp, Hmd.out.1.drew⟩
   | true =>
    go_wp2_with (fail)
    refine J03 (S := T) [(0, true), (1, true), (2, true), (3, true), (4, true), (5, true), (6, true), (7, true), (8, true), (9, true), (10, true), (11, true), (12, true), (13, true), (14, true), (15, true), (16, true), (17, true)] (by kernel_rfl) (by kernel_rfl) (by kernel_rfl) HT0 ?_
    iterate 15 (refine J01 rfl (by kernel_rfl) (fun K hK => ?_); go_simp; refine hK _ _ ?_; clear hK K)
    iterate 1 (refine J1h rfl rfl (by kernel_rfl) rfl (fun K hK => ?_); go_simp; refine hK _ _ ?_; clear hK K)
    iterate 1 (refine J0z rfl rfl (by kernel_rfl) rfl (fun K hK => ?_); go_simp; refine hK _ _ ?_; clear hK K)
    iterate 1 (refine J01 rfl (by kernel_rfl) (fun K hK => ?_); go_simp; refine hK _ _ ?_; clear hK K)
    refine J07 ?_
    clear l1 l2 l3 hne HT0
    go_wp2
    go_ret
    exact ⟨by simp, Hmd.out.1.drew⟩

set_option maxHeartbeats 1000000 in
theorem Jne (M : Nat) (C : Array Value) (a b c n : Int) (w : World) (hC16 : C.size = 16) (xa xb : Bool) (a0 : 0 ≤ a) (a1 : a < 8) (b0 : 0 ≤ b) (b1 : b < 8) (ka : C[a.toNat * 2 + 1]? = some (.bool xa)) (kb : C[b.toNat * 2 + 1]? = some (.bool xb)) (xr : Bool) (rb ro rl rc : Nat) (hM : w.cell? ⟨M, 0, none⟩ = some (.slice (some ⟨rb, ro, none⟩) rl rc)) (c0 : 0 ≤ c) (c1 : c < rl) (kr : w.cell? ⟨rb, ro + c.toNat * 2 + 1, none⟩ = some (.bool xr)) :
    Calls Tryz.prog 111 #[.pointer (some ⟨M, 0, none⟩), .agg #[V 6, V a, V b, V c, V n], .agg C] w fun e w' => e = .returned (.bool (xa && !xr)) ∧ More w w' := by
  obtain ⟨W, HW⟩ : ∃ W : World, Hid (W = (w.alloc (.cells #[V 6, V a, V b, V c, V n] 41)).alloc (.cells C 139)) := ⟨_, rfl⟩
  have HB : Hid (Blk W w.heap.size #[V 6, V a, V b, V c, V n] 41 ∧ Blk W (w.heap.size + 1) C 139 ∧ More w W) := by
    rw [HW.out]
    exact ⟨(Blk.last _ _ _).alloc _ _, (by simpa using Blk.last (w.alloc (.cells #[V 6, V a, V b, V c, V n] 41)) C 139), ((More.refl _).alloc _ _).alloc _ _⟩
  obtain ⟨S, HS⟩ : ∃ S : World → Prop, Hid (∀ w', S w' ↔ More W w') := ⟨_, fun _ => Iff.rfl⟩
  have HS0 : S W.drew := (HS.out _).2 (More.refl _).drew
  have hne : Nonempty { w' // S w' } := ⟨⟨_, HS0⟩⟩
  have k1 : ∀ i : { w' // S w' }, i.val.cell? ⟨w.heap.size, 1, none⟩ = some (V a) := fun i => (HB.out.1.more ((HS.out _).1 i.property)).cell rfl
  have k2 : ∀ i : { w' // S w' }, i.val.cell? ⟨w.heap.size, 2, none⟩ = some (V b) := fun i => (HB.out.1.more ((HS.out _).1 i.property)).cell rfl
  have k3 : ∀ i : { w' // S w' }, i.val.cell? ⟨w.heap.size + 1, a.toNat * 2 + 1, none⟩ = some (.bool xa) := fun i => (HB.out.2.1.more ((HS.out _).1 i.property)).cell ka
  have k4 : ∀ i : { w' // S w' }, i.val.cell? ⟨w.heap.size + 1, b.toNat * 2 + 1, none⟩ = some (.bool xb) := fun i => (HB.out.2.1.more ((HS.out _).1 i.property)).cell kb
  obtain ⟨wd, Hwd⟩ : ∃ w_ : World, Hid (w_ = W.drew) := ⟨_, rfl⟩
  have Hmd : Hid (More w wd ∧ Blk wd w.heap.size #[V 6, V a, V b, V c, V n] 41 ∧ Blk wd (w.heap.size + 1) C 139) := by
    have m : More W wd := Hwd.out ▸ (More.refl W).drew
    exact ⟨HB.out.2.2.trans m, HB.out.1.more m, HB.out.2.1.more m⟩
  have i0 : wd.cell? ⟨w.heap.size, 0, none⟩ = some (V 6) := Hmd.out.2.1.cell rfl
  have i3 : wd.cell? ⟨w.heap.size, 3, none⟩ = some (V c) := Hmd.out.2.1.cell rfl
  have hM' := Hmd.out.1.cell hM
  have kr' := Hmd.out.1.cell kr
  clear hM kr
  clear ka kb
  go_enter Tryz.func111, Tryz.ntmps111
  go_wp2_with (fail)
  rw [← HW.out]
  clear hC16
  refine J03 (S := S) [(0, true), (1, true), (2, true), (3, true), (4, true), (5, true), (6, true), (7, true), (8, true), (9, true), (10, true), (11, true)] (by kernel_rfl) (by kernel_rfl) (by kernel_rfl) HS0 ?_
  iterate 12 (refine J01 rfl (by kernel_rfl) (fun K hK => ?_); go_simp; refine hK _ _ ?_; clear hK K)
  refine J07 ?_
  rw [← Hwd.out]
  clear k1 k2 k3 k4 hne HS0
  obtain ⟨T, HT⟩ : ∃ T : World → Prop, Hid (∀ w', T w' ↔ More wd w') := ⟨_, fun _ => Iff.rfl⟩
  have HT0 : T wd.drew := (HT.out _).2 (More.refl _).drew
  have hne : Nonempty { w' // T w' } := ⟨⟨_, HT0⟩⟩
  have l1 : ∀ i : { w' // T w' }, i.val.cell? ⟨w.heap.size, 3, none⟩ = some (V c) := fun i => ((HT.out _).1 i.property).cell i3
  have l2 : ∀ i : { w' // T w' }, i.val.cell? ⟨M, 0, none⟩ = some (.slice (some ⟨rb, ro, none⟩) rl rc) := fun i => ((HT.out _).1 i.property).cell hM'
  have l3 : ∀ i : { w' // T w' }, i.val.cell? ⟨rb, ro + c.toNat * 2 + 1, none⟩ = some (.bool xr) := fun i => ((HT.out _).1 i.property).cell kr'
  cases xa with
  | false =>
    go_wp2_with (fail)
    refine J03 (S := T) [(0, true), (1, true), (2, true), (3, true), (4, true), (5, true), (6, true), (7, true), (8, true), (9, true), (10, true), (11, true), (12, true), (13, true), (14, true)] (by kernel_rfl) (by kernel_rfl) (by kernel_rfl) HT0 ?_
    iterate 2 (refine J01 rfl (by kernel_rfl) (fun K hK => ?_); go_simp; refine hK _ _ ?_; clear hK K)
    iterate 11 (refine J24 rfl HT0 (by kernel_rfl) (by kernel_rfl) ?_)
    iterate 1 (refine J0z rfl rfl (by kernel_rfl) rfl (fun K hK => ?_); go_simp; refine hK _ _ ?_; clear hK K)
    iterate 1 (refine J01 rfl (by kernel_rfl) (fun K hK => ?_); go_simp; refine hK _ _ ?_; clear hK K)
    refine J07 ?_
    clear l1 l2 l3 hne HT0
    go_wp2
    go_ret
    exact ⟨by simp, Hmd.out.1.drew⟩
  | true =>
    go_wp2_with (fail)
    refine J03 (S := T) [(0, true), (1, true), (2, true), (3, true), (4, true), (5, true), (6, true), (7, true), (8, true), (9, true), (10, true), (11, true), (12, true), (13, true), (14, true)] (by kernel_rfl) (by kernel_rfl) (by kernel_rfl) HT0 ?_
    iterate 13 (refine J01 rfl (by kernel_rfl) (fun K hK => ?_); go_simp; refine hK _ _ ?_; clear hK K)
    iterate 1 (refine J1h rfl rfl (by kernel_rfl) rfl (fun K hK => ?_); go_simp; refine hK _ _ ?_; clear hK K)
    iterate 1 (refine J01 rfl (by kernel_rfl) (fun K hK => ?_); go_simp; refine hK _ _ ?_; clear hK K)
    refine J07 ?_
    clear l1 l2 l3 hne HT0
    go_wp2
    go_ret
    exact ⟨by simp, Hmd.out.1.drew⟩

set_option maxHeartbeats 1000000 in
theorem Jnf (M : Nat) (C : Array Value) (a b c n : Int) (w : World) (hC16 : C.size = 16) (xa xb : Bool) (a0 : 0 ≤ a) (a1 : a < 8) (b0 : 0 ≤ b) (b1 : b < 8) (ka : C[a.toNat * 2 + 1]? = some (.bool xa)) (kb : C[b.toNat * 2 + 1]? = some (.bool xb)) :
    Calls Tryz.prog 111 #[.pointer (some ⟨M, 0, none⟩), .agg #[V 8, V a, V b, V c, V n], .agg C] w fun e w' => e = .returned (.bool (xa || xb)) ∧ More w w' := by
  obtain ⟨W, HW⟩ : ∃ W : World, Hid (W = (w.alloc (.cells #[V 8, V a, V b, V c, V n] 41)).alloc (.cells C 139)) := ⟨_, rfl⟩
  have HB : Hid (Blk W w.heap.size #[V 8, V a, V b, V c, V n] 41 ∧ Blk W (w.heap.size + 1) C 139 ∧ More w W) := by
    rw [HW.out]
    exact ⟨(Blk.last _ _ _).alloc _ _, (by simpa using Blk.last (w.alloc (.cells #[V 8, V a, V b, V c, V n] 41)) C 139), ((More.refl _).alloc _ _).alloc _ _⟩
  obtain ⟨S, HS⟩ : ∃ S : World → Prop, Hid (∀ w', S w' ↔ More W w') := ⟨_, fun _ => Iff.rfl⟩
  have HS0 : S W.drew := (HS.out _).2 (More.refl _).drew
  have hne : Nonempty { w' // S w' } := ⟨⟨_, HS0⟩⟩
  have k1 : ∀ i : { w' // S w' }, i.val.cell? ⟨w.heap.size, 1, none⟩ = some (V a) := fun i => (HB.out.1.more ((HS.out _).1 i.property)).cell rfl
  have k2 : ∀ i : { w' // S w' }, i.val.cell? ⟨w.heap.size, 2, none⟩ = some (V b) := fun i => (HB.out.1.more ((HS.out _).1 i.property)).cell rfl
  have k3 : ∀ i : { w' // S w' }, i.val.cell? ⟨w.heap.size + 1, a.toNat * 2 + 1, none⟩ = some (.bool xa) := fun i => (HB.out.2.1.more ((HS.out _).1 i.property)).cell ka
  have k4 : ∀ i : { w' // S w' }, i.val.cell? ⟨w.heap.size + 1, b.toNat * 2 + 1, none⟩ = some (.bool xb) := fun i => (HB.out.2.1.more ((HS.out _).1 i.property)).cell kb
  obtain ⟨wd, Hwd⟩ : ∃ w_ : World, Hid (w_ = W.drew) := ⟨_, rfl⟩
  have Hmd : Hid (More w wd ∧ Blk wd w.heap.size #[V 8, V a, V b, V c, V n] 41 ∧ Blk wd (w.heap.size + 1) C 139) := by
    have m : More W wd := Hwd.out ▸ (More.refl W).drew
    exact ⟨HB.out.2.2.trans m, HB.out.1.more m, HB.out.2.1.more m⟩
  have i0 : wd.cell? ⟨w.heap.size, 0, none⟩ = some (V 8) := Hmd.out.2.1.cell rfl
  have i3 : wd.cell? ⟨w.heap.size, 3, none⟩ = some (V c) := Hmd.out.2.1.cell rfl
  clear ka kb
  go_enter Tryz.func111, Tryz.ntmps111
  go_wp2_with (fail)
  rw [← HW.out]
  clear hC16
  refine J03 (S := S) [(0, true), (1, true), (2, true), (3, true), (4, true), (5, true), (6, true), (7, true), (8, true), (9, true), (10, true), (11, true)] (by kernel_rfl) (by kernel_rfl) (by kernel_rfl) HS0 ?_
  iterate 12 (refine J01 rfl (by kernel_rfl) (fun K hK => ?_); go_simp; refine hK _ _ ?_; clear hK K)
  refine J07 ?_
  rw [← Hwd.out]
  clear k1 k2 k3 k4 hne HS0
  cases xa <;> cases xb
  all_goals
    go_wp2
    go_ret
    exact ⟨rfl, by repeat (first | exact Hmd.out.1 | apply More.drew | apply More.alloc)⟩

set_option maxHeartbeats 1000000 in
theorem Jc6 (ov_ : Int) (hov_ : ov_ = 29 ∨ ov_ = 30) (M : Nat) (C : Array Value) (a b c n : Int) (w : World) (hC16 : C.size = 16) (xa xb : Bool) (a0 : 0 ≤ a) (a1 : a < 8) (b0 : 0 ≤ b) (b1 : b < 8) (ka : C[a.toNat * 2 + 1]? = some (.bool xa)) (kb : C[b.toNat * 2 + 1]? = some (.bool xb)) (xc : Bool) (c0 : 0 ≤ c) (c1 : c < 8) (kc : C[c.toNat * 2 + 1]? = some (.bool xc)) :
    Calls Tryz.prog 111 #[.pointer (some ⟨M, 0, none⟩), .agg #[V ov_, V a, V b, V c, V n], .agg C] w fun e w' => e = .returned (.bool (xb || xc)) ∧ More w w' := by
  obtain ⟨W, HW⟩ : ∃ W : World, Hid (W = (w.alloc (.cells #[V ov_, V a, V b, V c, V n] 41)).alloc (.cells C 139)) := ⟨_, rfl⟩
  have HB : Hid (Blk W w.heap.size #[V ov_, V a, V b, V c, V n] 41 ∧ Blk W (w.heap.size + 1) C 139 ∧ More w W) := by
    rw [HW.out]
    exact ⟨(Blk.last _ _ _).alloc _ _, (by simpa using Blk.last (w.alloc (.cells #[V ov_, V a, V b, V c, V n] 41)) C 139), ((More.refl _).alloc _ _).alloc _ _⟩
  obtain ⟨S, HS⟩ : ∃ S : World → Prop, Hid (∀ w', S w' ↔ More W w') := ⟨_, fun _ => Iff.rfl⟩
  have HS0 : S W.drew := (HS.out _).2 (More.refl _).drew
  have hne : Nonempty { w' // S w' } := ⟨⟨_, HS0⟩⟩
  have k1 : ∀ i : { w' // S w' }, i.val.cell? ⟨w.heap.size, 1, none⟩ = some (V a) := fun i => (HB.out.1.more ((HS.out _).1 i.property)).cell rfl
  have k2 : ∀ i : { w' // S w' }, i.val.cell? ⟨w.heap.size, 2, none⟩ = some (V b) := fun i => (HB.out.1.more ((HS.out _).1 i.property)).cell rfl
  have k3 : ∀ i : { w' // S w' }, i.val.cell? ⟨w.heap.size + 1, a.toNat * 2 + 1, none⟩ = some (.bool xa) := fun i => (HB.out.2.1.more ((HS.out _).1 i.property)).cell ka
  have k4 : ∀ i : { w' // S w' }, i.val.cell? ⟨w.heap.size + 1, b.toNat * 2 + 1, none⟩ = some (.bool xb) := fun i => (HB.out.2.1.more ((HS.out _).1 i.property)).cell kb
  obtain ⟨wd, Hwd⟩ : ∃ w_ : World, Hid (w_ = W.drew) := ⟨_, rfl⟩
  have Hmd : Hid (More w wd ∧ Blk wd w.heap.size #[V ov_, V a, V b, V c, V n] 41 ∧ Blk wd (w.heap.size + 1) C 139) := by
    have m : More W wd := Hwd.out ▸ (More.refl W).drew
    exact ⟨HB.out.2.2.trans m, HB.out.1.more m, HB.out.2.1.more m⟩
  have i0 : wd.cell? ⟨w.heap.size, 0, none⟩ = some (V ov_) := Hmd.out.2.1.cell rfl
  rcases hov_ with rfl | rfl
  all_goals
    have i3 : wd.cell? ⟨w.heap.size, 3, none⟩ = some (V c) := Hmd.out.2.1.cell rfl
    have kc' := Hmd.out.2.2.cell kc
    clear kc
    clear ka kb
    go_enter Tryz.func111, Tryz.ntmps111
    go_wp2_with (fail)
    rw [← HW.out]
    clear hC16
    refine J03 (S := S) [(0, true), (1, true), (2, true), (3, true), (4, true), (5, true), (6, true), (7, true), (8, true), (9, true), (10, true), (11, true)] (by kernel_rfl) (by kernel_rfl) (by kernel_rfl) HS0 ?_
    iterate 12 (refine J01 rfl (by kernel_rfl) (fun K hK => ?_); go_simp; refine hK _ _ ?_; clear hK K)
    refine J07 ?_
    rw [← Hwd.out]
    clear k1 k2 k3 k4 hne HS0
    cases xb <;> cases xc
    all_goals
      go_wp2
      go_ret
      exact ⟨rfl, by repeat (first | exact Hmd.out.1 | apply More.drew | apply More.alloc)⟩

set_option maxHeartbeats 1000000 in
theorem Jng (M : Nat) (C : Array Value) (a b c n : Int) (w : World) (hC16 : C.size = 16) (xa xb : Bool) (a0 : 0 ≤ a) (a1 : a < 8) (b0 : 0 ≤ b) (b1 : b < 8) (ka : C[a.toNat * 2 + 1]? = some (.bool xa)) (kb : C[b.toNat * 2 + 1]? = some (.bool xb)) :
    Calls Tryz.prog 111 #[.pointer (some ⟨M, 0, none⟩), .agg #[V 9, V a, V b, V c, V n], .agg C] w fun e w' => e = .returned (.bool (xa)) ∧ More w w' := by
  obtain ⟨W, HW⟩ : ∃ W : World, Hid (W = (w.alloc (.cells #[V 9, V a, V b, V c, V n] 41)).alloc (.cells C 139)) := ⟨_, rfl⟩
  have HB : Hid (Blk W w.heap.size #[V 9, V a, V b, V c, V n] 41 ∧ Blk W (w.heap.size + 1) C 139 ∧ More w W) := by
    rw [HW.out]
    exact ⟨(Blk.last _ _ _).alloc _ _, (by simpa using Blk.last (w.alloc (.cells #[V 9, V a, V b, V c, V n] 41)) C 139), ((More.refl _).alloc _ _).alloc _ _⟩
  obtain ⟨S, HS⟩ : ∃ S : World → Prop, Hid (∀ w', S w' ↔ More W w') := ⟨_, fun _ => Iff.rfl⟩
  have HS0 : S W.drew := (HS.out _).2 (More.refl _).drew
  have hne : Nonempty { w' // S w' } := ⟨⟨_, HS0⟩⟩
  have k1 : ∀ i : { w' // S w' }, i.val.cell? ⟨w.heap.size, 1, none⟩ = some (V a) := fun i => (HB.out.1.more ((HS.out _).1 i.property)).cell rfl
  have k2 : ∀ i : { w' // S w' }, i.val.cell? ⟨w.heap.size, 2, none⟩ = some (V b) := fun i => (HB.out.1.more ((HS.out _).1 i.property)).cell rfl
  have k3 : ∀ i : { w' // S w' }, i.val.cell? ⟨w.heap.size + 1, a.toNat * 2 + 1, none⟩ = some (.bool xa) := fun i => (HB.out.2.1.more ((HS.out _).1 i.property)).cell ka
  have k4 : ∀ i : { w' // S w' }, i.val.cell? ⟨w.heap.size + 1, b.toNat * 2 + 1, none⟩ = some (.bool xb) := fun i => (HB.out.2.1.more ((HS.out _).1 i.property)).cell kb
  obtain ⟨wd, Hwd⟩ : ∃ w_ : World, Hid (w_ = W.drew) := ⟨_, rfl⟩
  have Hmd : Hid (More w wd ∧ Blk wd w.heap.size #[V 9, V a, V b, V c, V n] 41 ∧ Blk wd (w.heap.size + 1) C 139) := by
    have m : More W wd := Hwd.out ▸ (More.refl W).drew
    exact ⟨HB.out.2.2.trans m, HB.out.1.more m, HB.out.2.1.more m⟩
  have i0 : wd.cell? ⟨w.heap.size, 0, none⟩ = some (V 9) := Hmd.out.2.1.cell rfl
  have i3 : wd.cell? ⟨w.heap.size, 3, none⟩ = some (V c) := Hmd.out.2.1.cell rfl
  clear ka kb
  go_enter Tryz.func111, Tryz.ntmps111
  go_wp2_with (fail)
  rw [← HW.out]
  clear hC16
  refine J03 (S := S) [(0, true), (1, true), (2, true), (3, true), (4, true), (5, true), (6, true), (7, true), (8, true), (9, true), (10, true), (11, true)] (by kernel_rfl) (by kernel_rfl) (by kernel_rfl) HS0 ?_
  iterate 12 (refine J01 rfl (by kernel_rfl) (fun K hK => ?_); go_simp; refine hK _ _ ?_; clear hK K)
  refine J07 ?_
  rw [← Hwd.out]
  clear k1 k2 k3 k4 hne HS0
  cases xa
  all_goals
    go_wp2
    go_ret
    exact ⟨rfl, by repeat (first | exact Hmd.out.1 | apply More.drew | apply More.alloc)⟩

set_option maxHeartbeats 1000000 in
theorem Jdz (M : Nat) (C : Array Value) (op a b c n : Int) (w : World) (hC16 : C.size = 16) (xa xb : Bool) (a0 : 0 ≤ a) (a1 : a < 8) (b0 : 0 ≤ b) (b1 : b < 8) (ka : C[a.toNat * 2 + 1]? = some (.bool xa)) (kb : C[b.toNat * 2 + 1]? = some (.bool xb)) (h3 : ¬ op = 3) (h4 : ¬ op = 4) (h6 : ¬ op = 6) (h8 : ¬ op = 8) (h29 : ¬ op = 29) (h30 : ¬ op = 30) (h9 : ¬ op = 9) :
    Calls Tryz.prog 111 #[.pointer (some ⟨M, 0, none⟩), .agg #[V op, V a, V b, V c, V n], .agg C] w fun e w' => e = .returned (.bool (false)) ∧ More w w' := by
  have e3 : (op == 3) = false := by simp [h3]
  have e4 : (op == 4) = false := by simp [h4]
  have e6 : (op == 6) = false := by simp [h6]
  have e8 : (op == 8) = false := by simp [h8]
  have e29 : (op == 29) = false := by simp [h29]
  have e30 : (op == 30) = false := by simp [h30]
  have e9 : (op == 9) = false := by simp [h9]
  clear h3 h4 h6 h8 h29 h30 h9
  obtain ⟨W, HW⟩ : ∃ W : World, Hid (W = (w.alloc (.cells #[V op, V a, V b, V c, V n] 41)).alloc (.cells C 139)) := ⟨_, rfl⟩
  have HB : Hid (Blk W w.heap.size #[V op, V a, V b, V c, V n] 41 ∧ Blk W (w.heap.size + 1) C 139 ∧ More w W) := by
    rw [HW.out]
    exact ⟨(Blk.last _ _ _).alloc _ _, (by simpa using Blk.last (w.alloc (.cells #[V op, V a, V b, V c, V n] 41)) C 139), ((More.refl _).alloc _ _).alloc _ _⟩
  obtain ⟨S, HS⟩ : ∃ S : World → Prop, Hid (∀ w', S w' ↔ More W w') := ⟨_, fun _ => Iff.rfl⟩
  have HS0 : S W.drew := (HS.out _).2 (More.refl _).drew
  have hne : Nonempty { w' // S w' } := ⟨⟨_, HS0⟩⟩
  have k1 : ∀ i : { w' // S w' }, i.val.cell? ⟨w.heap.size, 1, none⟩ = some (V a) := fun i => (HB.out.1.more ((HS.out _).1 i.property)).cell rfl
  have k2 : ∀ i : { w' // S w' }, i.val.cell? ⟨w.heap.size, 2, none⟩ = some (V b) := fun i => (HB.out.1.more ((HS.out _).1 i.property)).cell rfl
  have k3 : ∀ i : { w' // S w' }, i.val.cell? ⟨w.heap.size + 1, a.toNat * 2 + 1, none⟩ = some (.bool xa) := fun i => (HB.out.2.1.more ((HS.out _).1 i.property)).cell ka
  have k4 : ∀ i : { w' // S w' }, i.val.cell? ⟨w.heap.size + 1, b.toNat * 2 + 1, none⟩ = some (.bool xb) := fun i => (HB.out.2.1.more ((HS.out _).1 i.property)).cell kb
  obtain ⟨wd, Hwd⟩ : ∃ w_ : World, Hid (w_ = W.drew) := ⟨_, rfl⟩
  have Hmd : Hid (More w wd ∧ Blk wd w.heap.size #[V op, V a, V b, V c, V n] 41 ∧ Blk wd (w.heap.size + 1) C 139) := by
    have m : More W wd := Hwd.out ▸ (More.refl W).drew
    exact ⟨HB.out.2.2.trans m, HB.out.1.more m, HB.out.2.1.more m⟩
  have i0 : wd.cell? ⟨w.heap.size, 0, none⟩ = some (V op) := Hmd.out.2.1.cell rfl
  have i3 : wd.cell? ⟨w.heap.size, 3, none⟩ = some (V c) := Hmd.out.2.1.cell rfl
  clear ka kb
  go_enter Tryz.func111, Tryz.ntmps111
  go_wp2_with (fail)
  rw [← HW.out]
  clear hC16
  refine J03 (S := S) [(0, true), (1, true), (2, true), (3, true), (4, true), (5, true), (6, true), (7, true), (8, true), (9, true), (10, true), (11, true)] (by kernel_rfl) (by kernel_rfl) (by kernel_rfl) HS0 ?_
  iterate 12 (refine J01 rfl (by kernel_rfl) (fun K hK => ?_); go_simp; refine hK _ _ ?_; clear hK K)
  refine J07 ?_
  rw [← Hwd.out]
  clear k1 k2 k3 k4 hne HS0
  all_goals
    go_wp2
    go_ret
    exact ⟨rfl, by repeat (first | exact Hmd.out.1 | apply More.drew | apply More.alloc)⟩

theorem ab_of {p : Prg} {i : Ins} (h : InsOk p.rl p.log p.cl 8 i) : 0 ≤ i.a ∧ i.a < 8 ∧ 0 ≤ i.b ∧ i.b < 8 := by
  unfold InsOk Reg Rgn at h
  have hop : i.op = 1 ∨ i.op = 2 ∨ i.op = 3 ∨ i.op = 4 ∨ i.op = 5 ∨ i.op = 6 ∨ i.op = 7 ∨ i.op = 8 ∨ i.op = 9 ∨ i.op = 10 ∨ i.op = 11 ∨ i.op = 12 ∨ ¬ (1 ≤ i.op ∧ i.op ≤ 12) := by omega
  rcases hop with h1 | h1 | h1 | h1 | h1 | h1 | h1 | h1 | h1 | h1 | h1 | h1 | h1
  all_goals first
    | (simp [h1] at h; omega)
    | (rw [if_neg (by omega), if_neg (by omega), if_neg (by omega), if_neg (by omega), if_neg (by omega), if_neg (by omega), if_neg (by omega), if_neg (by omega), if_neg (by omega), if_neg (by omega), if_neg (by omega), if_neg (by omega)] at h; omega)

theorem Jdy (p : Prg) (s : KS) (M : Nat) (lo : Loc) (i : Ins) (w : World) (hM : w.cell? ⟨M, 0, none⟩ = some (.slice lo.ra p.rl lo.rc)) (hp : PIn w p lo) (hi : InsOk p.rl p.log p.cl 8 i) :
    Calls Tryz.prog 111 #[.pointer (some ⟨M, 0, none⟩), .agg #[V i.op, V i.a, V i.b, V i.c, V i.n], .agg (kv s)] w fun e w' => e = .returned (.bool (J1e p i s)) ∧ More w w' := by
  have hab := ab_of hi
  obtain ⟨op, a, b, c, n⟩ := i
  dsimp only at *
  have ka := (kv_at s a.toNat (by omega)).2
  have kb := (kv_at s b.toNat (by omega)).2
  have h16 := J0b s
  obtain ⟨ha0, ha1, hb0, hb1⟩ := hab
  unfold InsOk Reg Rgn at hi
  dsimp only at hi
  by_cases h3 : op = 3
  · subst h3
    have e0 : J1e p ⟨3, a, b, c, n⟩ s = (s b.toNat).s := by unfold J1e; simp
    rw [e0]
    simp at hi
    exact Jnc M (kv s) a b c n w h16 _ _ ha0 ha1 hb0 hb1 ka kb
  by_cases h4 : op = 4
  · subst h4
    have e0 : J1e p ⟨4, a, b, c, n⟩ s = ((s b.toNat).s || ((s a.toNat).s && !p.sec c.toNat)) := by unfold J1e; simp
    rw [e0]
    simp at hi
    rw [hp.hr (by omega)] at hM
    exact Jnd M (kv s) a b c n w h16 _ _ ha0 ha1 hb0 hb1 ka kb _ lo.rb lo.ro p.rl lo.rc hM (by omega) (by omega) (hp.regs c.toNat (by omega)).2
  by_cases h6 : op = 6
  · subst h6
    have e0 : J1e p ⟨6, a, b, c, n⟩ s = ((s a.toNat).s && !p.sec c.toNat) := by unfold J1e; simp
    rw [e0]
    simp at hi
    rw [hp.hr (by omega)] at hM
    exact Jne M (kv s) a b c n w h16 _ _ ha0 ha1 hb0 hb1 ka kb _ lo.rb lo.ro p.rl lo.rc hM (by omega) (by omega) (hp.regs c.toNat (by omega)).2
  by_cases h8 : op = 8
  · subst h8
    have e0 : J1e p ⟨8, a, b, c, n⟩ s = ((s a.toNat).s || (s b.toNat).s) := by unfold J1e; simp
    rw [e0]
    simp at hi
    exact Jnf M (kv s) a b c n w h16 _ _ ha0 ha1 hb0 hb1 ka kb
  by_cases h29 : op = 29
  · subst h29
    have e0 : J1e p ⟨29, a, b, c, n⟩ s = ((s b.toNat).s || (s c.toNat).s) := by unfold J1e; simp
    rw [e0]
    simp at hi
    exact Jc6 29 (by decide) M (kv s) a b c n w h16 _ _ ha0 ha1 hb0 hb1 ka kb _ (by omega) (by omega) (kv_at s c.toNat (by omega)).2
  by_cases h30 : op = 30
  · subst h30
    have e0 : J1e p ⟨30, a, b, c, n⟩ s = ((s b.toNat).s || (s c.toNat).s) := by unfold J1e; simp
    rw [e0]
    simp at hi
    exact Jc6 30 (by decide) M (kv s) a b c n w h16 _ _ ha0 ha1 hb0 hb1 ka kb _ (by omega) (by omega) (kv_at s c.toNat (by omega)).2
  by_cases h9 : op = 9
  · subst h9
    have e0 : J1e p ⟨9, a, b, c, n⟩ s = (s a.toNat).s := by unfold J1e; simp
    rw [e0]
    simp at hi
    exact Jng M (kv s) a b c n w h16 _ _ ha0 ha1 hb0 hb1 ka kb
  · have e0 : J1e p ⟨op, a, b, c, n⟩ s = false := by unfold J1e; simp [h3, h4, h6, h8, h29, h30, h9]
    rw [e0]
    exact Jdz M (kv s) op a b c n w h16 _ _ ha0 ha1 hb0 hb1 ka kb h3 h4 h6 h8 h29 h30 h9
set_option maxHeartbeats 1000000 in
theorem Ja7 (M cb co cl cc at_ : Nat) (op : Int) (w : World) (m1 : w.cell? ⟨M, 1, none⟩ = some (.slice (some ⟨cb, co, none⟩) cl cc)) (q0 : w.cell? ⟨cb, co + at_ * 5, none⟩ = some (V op)) (hat : at_ < cl) (hcl : cl ≤ 200) :
  Calls Tryz.prog 109 #[.pointer (some ⟨M, 0, none⟩), V at_] w fun e w' => e = .returned (.bool (!(decide (op = 7)) && (!(decide (op = 9)) && decide (cl ≤ at_ + 1)))) ∧ w' = w := by
 have hi1 : ((at_ : Int) < cl) := by omega
 have hi2 : ((cl : Int) ≤ 200) := by omega
 have hi0 : (0 : Int) ≤ cl := by omega
 by_cases hl : cl ≤ at_ + 1
 ·have e1 : ((at_ : Int) == (cl : Int) - 1) = true := by rw [beq_iff_eq]; omega
  by_cases h9 : op = 9
  ·subst h9
   rw [show (!(decide ((9 : Int) = 7)) && (!(decide ((9 : Int) = 9)) && decide (cl ≤ at_ + 1))) = false by simp]
   clear hl hat hcl
   go_enter Tryz.func109, Tryz.ntmps109
   go_wp2
   go_ret
   exact ⟨rfl, rfl⟩
  by_cases h7 : op = 7
  ·subst h7
   rw [show (!(decide ((7 : Int) = 7)) && (!(decide ((7 : Int) = 9)) && decide (cl ≤ at_ + 1))) = false by simp]
   clear hl hat hcl
   go_enter Tryz.func109, Tryz.ntmps109
   go_wp2
   go_ret
   exact ⟨rfl, rfl⟩
  ·rw [show (!(decide (op = 7)) && (!(decide (op = 9)) && decide (cl ≤ at_ + 1))) = true by simp [h7, h9, hl]]
   have e9 : (op == 9) = false := by simp [h9]
   have e7 : (op == 7) = false := by simp [h7]
   have f9 : (op != 9) = true := by simp [h9]
   have f7 : (op != 7) = true := by simp [h7]
   clear hl hat hcl
   go_enter Tryz.func109, Tryz.ntmps109
   go_wp2
   go_ret
   exact ⟨rfl, rfl⟩
 ·have e1 : ((at_ : Int) == (cl : Int) - 1) = false := by rw [beq_eq_false_iff_ne]; omega
  rw [show (!(decide (op = 7)) && (!(decide (op = 9)) && decide (cl ≤ at_ + 1))) = false by simp [hl]]
  clear hl hat hcl
  go_enter Tryz.func109, Tryz.ntmps109
  go_wp2
  go_ret
  exact ⟨rfl, rfl⟩

set_option maxHeartbeats 1000000 in
theorem J7r (M : Nat) (C : Array Value) (op a b c n : Int) (w : World) (hC16 : C.size = 16) (h3 : ¬ op = 3) (h4 : ¬ op = 4) :
  Calls Tryz.prog 110 #[.pointer (some ⟨M, 0, none⟩), .agg #[V op, V a, V b, V c, V n], .agg C] w fun e w' => e = .returned (.bool false) ∧ More w w' := by
 have e3 : (op == 3) = false := by simp [h3]
 have e4 : (op == 4) = false := by simp [h4]
 have f3 : (op != 3) = true := by simp [h3]
 have f4 : (op != 4) = true := by simp [h4]
 clear h3 h4
 go_enter Tryz.func110, Tryz.ntmps110
 go_wp2
 go_ret
 exact ⟨rfl, by repeat (first | exact More.refl _ | apply More.drew | apply More.alloc)⟩

set_option maxHeartbeats 1000000 in
theorem J4h (ov_ : Int) (hov_ : ov_ = 3 ∨ ov_ = 4) (M : Nat) (s : KS) (a b c n : Int) (w : World) (b0 : 0 ≤ b) (b1 : b < 8) (n0 : -9223372036854775808 ≤ n) (rb ro rl rc : Nat) (log : Nat → Int) (sec : Nat → Bool) (hM : w.cell? ⟨M, 0, none⟩ = some (.slice (some ⟨rb, ro, none⟩) rl rc)) (hregs : RegsAt w rb ro rl log sec) (c0 : 0 ≤ c) (c1 : c < rl) :
  Calls Tryz.prog 110 #[.pointer (some ⟨M, 0, none⟩), .agg #[V ov_, V a, V b, V c, V n], .agg (kv s)] w fun e w' => e = .returned (.bool (decide (log c.toNat < (Kn.index (s b.toNat) n).b))) ∧ More w w' := by
 suffices hP : ∀ P : Ending → World → Prop, (∀ w', More w w' → P (.returned (.bool (decide (log c.toNat < (Kn.index (s b.toNat) n).b)))) w') → Calls Tryz.prog 110 #[.pointer (some ⟨M, 0, none⟩), .agg #[V ov_, V a, V b, V c, V n], .agg (kv s)] w P from hP _ (fun w' m => ⟨rfl, m⟩)
 intro P hP0
 have HP : Hid (∀ w', More w w' → P (.returned (.bool (decide (log c.toNat < (Kn.index (s b.toNat) n).b)))) w') := hP0
 clear hP0
 have Hreg : Hid (RegsAt w rb ro rl log sec) := hregs
 clear hregs
 have hb8 : b.toNat < 8 := by omega
 have hcr : c.toNat < rl := by omega
 obtain ⟨W, HW⟩ : ∃ W : World, Hid (W = (w.alloc (.cells #[V ov_, V a, V b, V c, V n] 41)).alloc (.cells (kv s) 139)) := ⟨_, rfl⟩
 have HB : Hid (Blk W w.heap.size #[V ov_, V a, V b, V c, V n] 41 ∧ Blk W (w.heap.size + 1) (kv s) 139 ∧ More w W) := by
  rw [HW.out]
  exact ⟨(Blk.last _ _ _).alloc _ _, (by simpa using Blk.last (w.alloc (.cells #[V ov_, V a, V b, V c, V n] 41)) (kv s) 139), ((More.refl _).alloc _ _).alloc _ _⟩
 obtain ⟨S, HS⟩ : ∃ S : World → Prop, Hid (∀ w', S w' ↔ More W w') := ⟨_, fun _ => Iff.rfl⟩
 have HS0 : S W.drew := (HS.out _).2 (More.refl _).drew
 have hne : Nonempty { w' // S w' } := ⟨⟨_, HS0⟩⟩
 have k0 : W.cell? ⟨w.heap.size, 0, none⟩ = some (V ov_) := HB.out.1.cell rfl
 rcases hov_ with rfl | rfl
 all_goals
  have k2 : ∀ i : { w' // S w' }, i.val.cell? ⟨w.heap.size, 2, none⟩ = some (V b) := fun i => (HB.out.1.more ((HS.out _).1 i.property)).cell rfl
  have k3 : ∀ i : { w' // S w' }, i.val.cell? ⟨w.heap.size, 3, none⟩ = some (V c) := fun i => (HB.out.1.more ((HS.out _).1 i.property)).cell rfl
  have k4 : ∀ i : { w' // S w' }, i.val.cell? ⟨w.heap.size, 4, none⟩ = some (V n) := fun i => (HB.out.1.more ((HS.out _).1 i.property)).cell rfl
  obtain ⟨xb, hxb⟩ : ∃ x, s b.toNat = x := ⟨_, rfl⟩
  have kb0 : ∀ i : { w' // S w' }, i.val.cell? ⟨w.heap.size + 1, b.toNat * 2, none⟩ = some (V xb.b) := fun i => by rw [(HB.out.2.1.more ((HS.out _).1 i.property)).cell (kv_at _ _ hb8).1, hxb]
  have kb1 : ∀ i : { w' // S w' }, i.val.cell? ⟨w.heap.size + 1, b.toNat * 2 + 1, none⟩ = some (.bool xb.s) := fun i => by rw [(HB.out.2.1.more ((HS.out _).1 i.property)).cell (kv_at _ _ hb8).2, hxb]
  have kM : ∀ i : { w' // S w' }, i.val.cell? ⟨M, 0, none⟩ = some (.slice (some ⟨rb, ro, none⟩) rl rc) := fun i => (HB.out.2.2.trans ((HS.out _).1 i.property)).cell hM
  obtain ⟨lg, hlg⟩ : ∃ x, log c.toNat = x := ⟨_, rfl⟩
  have kr0 : ∀ i : { w' // S w' }, i.val.cell? ⟨rb, ro + c.toNat * 2, none⟩ = some (V lg) := fun i => hlg ▸ (HB.out.2.2.trans ((HS.out _).1 i.property)).cell (Hreg.out _ hcr).1
  obtain ⟨v, hv⟩ : ∃ v, Kn.index xb n = v := ⟨_, rfl⟩
  have c2 : ∀ w : World, Calls Tryz.prog 131 #[kn xb.b xb.s, V n] w fun e w' => e = .returned (kn v.b v.s) ∧ More w w' := fun w => hv ▸ sum_k xb n n0 w
  rw [hlg, hxb, hv] at HP
  clear hlg hxb hv hM
  obtain ⟨xbb, xbs⟩ := xb
  obtain ⟨vb, vs⟩ := v
  unfold kn at c2
  dsimp only at kb0 kb1 c2 HP
  have hfd : ∀ w, (Instr.field 137 (.agg #[V vb, .bool vs]) 0).run Tryz.prog w = .ok (V vb) w := fun _ => by kernel_rfl
  obtain ⟨C, hC⟩ : ∃ c, kv s = c := ⟨_, rfl⟩
  have hC16 : C.size = 16 := hC ▸ J0b s
  rw [hC] at HW
  rw [hC]
  clear hC
  go_enter Tryz.func110, Tryz.ntmps110
  go_wp2_with (fail)
  rw [← HW.out]
  clear hC16 k0
  refine J03 (S := S) [(0, true), (1, true), (2, true), (3, true), (4, true), (5, true), (8, true), (9, true), (10, true), (11, true), (12, true), (13, true), (14, true), (15, true), (16, true), (17, true), (6, false), (7, true), (18, true), (19, true)] (by kernel_rfl) (by kernel_rfl) (by kernel_rfl) HS0 ?_
  iterate 16 (refine J01 rfl (by kernel_rfl) (fun K hK => ?_); go_simp; refine hK _ _ ?_; clear hK K)
  refine J02 rfl (by kernel_rfl) (fun K hK => ?_); go_simp
  refine (c2 _).mono ?_
  rintro e w2 ⟨rfl, m_⟩
  have Hm2 : Hid (More W w2) := (More.refl W).drew.trans m_
  clear m_
  go_simp
  refine hK _ _ ((HS.out _).2 Hm2.out) ?_; clear hK K
  iterate 3 (refine J01 rfl (by kernel_rfl) (fun K hK => ?_); go_simp; refine hK _ _ ?_; clear hK K)
  refine J07 ?_
  have Hend : Hid (P (.returned (.bool (decide (lg < vb)))) w2) := HP.out _ (HB.out.2.2.trans Hm2.out)
  clear k2 k3 k4 kb0 kb1 kM kr0 hne HS0 c2 hfd HP
  go_wp2
  exact Hend.out

theorem J5x (p : Prg) (s : KS) (M : Nat) (lo : Loc) (i : Ins) (w : World) (hM : w.cell? ⟨M, 0, none⟩ = some (.slice lo.ra p.rl lo.rc)) (hp : PIn w p lo) (hi : InsOk p.rl p.log p.cl 8 i) (hro : J0o p.rl p.log) (hn : -9223372036854775808 ≤ i.n) :
  Calls Tryz.prog 110 #[.pointer (some ⟨M, 0, none⟩), .agg #[V i.op, V i.a, V i.b, V i.c, V i.n], .agg (kv s)] w fun e w' => e = .returned (.bool (J51 p i s)) ∧ More w w' := by
 obtain ⟨op, a, b, c, n⟩ := i
 dsimp only at *
 unfold InsOk Reg Rgn at hi
 dsimp only at hi
 have key : 0 ≤ c → c < p.rl → (decide (n < 0) || decide (p.log c.toNat < (Kn.index (s b.toNat) n).b)) = decide (p.log c.toNat < (Kn.index (s b.toNat) n).b) := by
  intro c0 c1
  by_cases h : n < 0
  ·have hl := hro.2 c.toNat (by omega)
   have : (Kn.index (s b.toNat) n).b = 17 := by unfold Kn.index; rw [if_pos h]
   rw [this]
   simp
   omega
  ·simp [h]
 by_cases h3 : op = 3
 ·subst h3
  simp at hi
  have e0 : J51 p ⟨3, a, b, c, n⟩ s = decide (p.log c.toNat < (Kn.index (s b.toNat) n).b) := by
   rw [← key (by omega) (by omega)]; unfold J51; simp
  rw [e0]
  rw [hp.hr (by omega)] at hM
  exact J4h 3 (by decide) M s a b c n w (by omega) (by omega) hn lo.rb lo.ro p.rl lo.rc p.log p.sec hM hp.regs (by omega) (by omega)
 by_cases h4 : op = 4
 ·subst h4
  simp at hi
  have e0 : J51 p ⟨4, a, b, c, n⟩ s = decide (p.log c.toNat < (Kn.index (s b.toNat) n).b) := by
   rw [← key (by omega) (by omega)]; unfold J51; simp
  rw [e0]
  rw [hp.hr (by omega)] at hM
  exact J4h 4 (by decide) M s a b c n w (by omega) (by omega) hn lo.rb lo.ro p.rl lo.rc p.log p.sec hM hp.regs (by omega) (by omega)
 ·have e0 : J51 p ⟨op, a, b, c, n⟩ s = false := by unfold J51; simp [h3, h4]
  rw [e0]
  exact J7r M (kv s) op a b c n w (J0b s) h3 h4
set_option maxHeartbeats 4000000 in
theorem Jiz {w0 : World} {p : Prg} {lo : Loc} {M B : Nat} {l : KV} {td : List Nat} {tv : Value} {w : World} (h : Ck w0 p lo M B l td tv w) (hcl : p.cl ≤ 200) (hn : td.length ≤ 99990) (at_ : Nat) (hat : at_ < p.cl) (s : KS) (hl : l at_ = some s) (op a b c n : Int) (hin : p.ins at_ = ⟨op, a, b, c, n⟩) (hok : InsOk p.rl p.log p.cl 8 ⟨op, a, b, c, n⟩) (hro : J0o p.rl p.log) (n0 : -9223372036854775808 ≤ n) (n1 : n ≤ 9223372036854775807) :
  Calls Tryz.prog 77 #[.pointer (some ⟨M, 0, none⟩), V at_] w fun e w' => e = .returned (V (J2q p at_ s)) ∧ More w w' := by
 suffices hP : ∀ P : Ending → World → Prop, (∀ w', More w w' → P (.returned (V (J2q p at_ s))) w') → Calls Tryz.prog 77 #[.pointer (some ⟨M, 0, none⟩), V at_] w P from hP _ (fun w' m => ⟨rfl, m⟩)
 intro P hP0
 have HP : Hid (∀ w', More w w' → P (.returned (V (J2q p at_ s))) w') := hP0
 clear hP0
 have Hck : Hid (Ck w0 p lo M B l td tv w) := h
 have m1 : w.cell? ⟨M, 1, none⟩ = some (.slice lo.ca p.cl lo.cc) := h.box.cell (j := 1) rfl
 have m2 : w.cell? ⟨M, 2, none⟩ = some (.slice (some ⟨B, 0, none⟩) p.cl p.cl) := h.box.cell (j := 2) rfl
 rw [h.pin.hc (by omega)] at m1
 have hcode := h.pinw.code at_ hat
 rw [hin] at hcode
 dsimp only at hcode
 obtain ⟨q0, q1, q2, q3, q4⟩ := hcode
 have Hpl : Hid (∀ w', More w w' → ∀ j v, (kv s)[j]? = some v → w'.cell? ⟨B, at_ * 17 + j, none⟩ = some v) := fun w' m => (h.more m).pl.regs hat hl
 have HN : Hid (td.length ≤ 99990 ∧ p.cl ≤ 200 ∧ at_ < p.cl ∧ p.ins at_ = ⟨op, a, b, c, n⟩) := ⟨hn, hcl, hat, hin⟩
 have hiC := J16 s
 have hone : (kv s).all (·.oneCell') = true := J2i s
 have hz16 : (kv zeroK).size = (kv s).size := by rw [J0b, J0b]
 clear h hn hl hin
 have Hok : Hid (InsOk p.rl p.log p.cl 8 ⟨op, a, b, c, n⟩ ∧ J0o p.rl p.log) := ⟨hok, hro⟩
 clear hok hro
 obtain ⟨C, hC⟩ : ∃ c, kv s = c := ⟨_, rfl⟩
 have HC : Hid (kv s = C) := hC
 rw [hC] at Hpl hiC hone hz16
 clear hC
 obtain ⟨cl, Hcl⟩ : ∃ x, Hid (p.cl = x) := ⟨_, rfl⟩
 rw [Hcl.out] at m1 m2 hat hcl
 have hi1 : ((at_ : Int) < cl) := by omega
 have hi2 : ((cl : Int) ≤ 200) := by omega
 obtain ⟨cb, Hcb⟩ : ∃ x, Hid (lo.cb = x) := ⟨_, rfl⟩
 obtain ⟨co, Hco⟩ : ∃ x, Hid (lo.co = x) := ⟨_, rfl⟩
 obtain ⟨cc, Hcc⟩ : ∃ x, Hid (lo.cc = x) := ⟨_, rfl⟩
 rw [Hcb.out, Hco.out] at m1 q0 q1 q2 q3 q4
 rw [Hcc.out] at m1
 obtain ⟨S, HS⟩ : ∃ S : World → Prop, Hid (∀ w', S w' ↔ More w w') := ⟨_, fun _ => Iff.rfl⟩
 have HS0 : S w.drew := (HS.out _).2 (More.refl _).drew
 have hne : Nonempty { w' // S w' } := ⟨⟨_, HS0⟩⟩
 have k1 : ∀ i : { w' // S w' }, i.val.cell? ⟨M, 1, none⟩ = some (.slice (some ⟨cb, co, none⟩) cl cc) := fun i => ((HS.out _).1 i.property).cell m1
 have k2 : ∀ i : { w' // S w' }, i.val.cell? ⟨M, 2, none⟩ = some (.slice (some ⟨B, 0, none⟩) cl cl) := fun i => ((HS.out _).1 i.property).cell m2
 have j0 : ∀ i : { w' // S w' }, i.val.cell? ⟨cb, co + at_ * 5, none⟩ = some (V op) := fun i => ((HS.out _).1 i.property).cell q0
 have j1 : ∀ i : { w' // S w' }, i.val.cell? ⟨cb, co + at_ * 5 + 1, none⟩ = some (V a) := fun i => ((HS.out _).1 i.property).cell q1
 have j2 : ∀ i : { w' // S w' }, i.val.cell? ⟨cb, co + at_ * 5 + 2, none⟩ = some (V b) := fun i => ((HS.out _).1 i.property).cell q2
 have j3 : ∀ i : { w' // S w' }, i.val.cell? ⟨cb, co + at_ * 5 + 3, none⟩ = some (V c) := fun i => ((HS.out _).1 i.property).cell q3
 have j4 : ∀ i : { w' // S w' }, i.val.cell? ⟨cb, co + at_ * 5 + 4, none⟩ = some (V n) := fun i => ((HS.out _).1 i.property).cell q4
 clear m1 m2 q0 q1 q2 q3 q4
 go_enter Tryz.func77, Tryz.ntmps77
 go_wp2_with (fail)
 refine J1n (S := S) (by kernel_rfl) HS0 ?_
 refine J0a 0 rfl (by kernel_rfl) HS0 (by kernel_rfl) (fun K hK => ?_); go_simp; refine hK _ _ ?_; clear hK K
 refine J0a 1 rfl (by kernel_rfl) HS0 (by kernel_rfl) (fun K hK => ?_); go_simp; refine hK _ _ ?_; clear hK K
 refine J0a 2 rfl (by kernel_rfl) HS0 (by kernel_rfl) (fun K hK => ?_); go_simp; refine hK _ _ ?_; clear hK K
 refine J0a 3 rfl (by kernel_rfl) HS0 (by kernel_rfl) (fun K hK => ?_); go_simp; refine hK _ _ ?_; clear hK K
 refine J0a 4 rfl (by kernel_rfl) HS0 (by kernel_rfl) (fun K hK => ?_); go_simp; refine hK _ _ ?_; clear hK K
 refine J0a 5 rfl (by kernel_rfl) HS0 (by kernel_rfl) (fun K hK => ?_); go_simp; refine hK _ _ ?_; clear hK K
 refine J0a 6 rfl (by kernel_rfl) HS0 (by kernel_rfl) (fun K hK => ?_); go_simp; refine hK _ _ ?_; clear hK K
 refine J0a 7 rfl (by kernel_rfl) HS0 (by kernel_rfl) (fun K hK => ?_); go_simp; refine hK _ _ ?_; clear hK K
 refine J0a 8 rfl (by kernel_rfl) HS0 (by kernel_rfl) (fun K hK => ?_); go_simp; refine hK _ _ ?_; clear hK K
 refine J0a 9 rfl (by kernel_rfl) HS0 (by kernel_rfl) (fun K hK => ?_); go_simp; refine hK _ _ ?_; clear hK K
 refine J0a 10 rfl (by kernel_rfl) HS0 (by kernel_rfl) (fun K hK => ?_); go_simp; refine hK _ _ ?_; clear hK K
 refine J0a 11 rfl (by kernel_rfl) HS0 (by kernel_rfl) (fun K hK => ?_); go_simp; refine hK _ _ ?_; clear hK K
 refine J0a 12 rfl (by kernel_rfl) HS0 (by kernel_rfl) (fun K hK => ?_); go_simp; refine hK _ _ ?_; clear hK K
 refine J0a 13 rfl (by kernel_rfl) HS0 (by kernel_rfl) (fun K hK => ?_); go_simp; refine hK _ _ ?_; clear hK K
 refine J0a 14 rfl (by kernel_rfl) HS0 (by kernel_rfl) (fun K hK => ?_); go_simp; refine hK _ _ ?_; clear hK K
 refine J0a 15 rfl (by kernel_rfl) HS0 (by kernel_rfl) (fun K hK => ⟨.agg C, fun i => J0u 139 (.tmp 21) rfl B (at_ * 17) rfl C _ (Hpl.out _ ((HS.out _).1 i.property)) Tryz.underlying139 rfl hiC, ?_⟩); go_simp; refine hK _ _ ?_; clear hK K
 obtain ⟨wd, Hwd⟩ : ∃ wd : World, Hid (wd = w.drew) := ⟨_, rfl⟩
 have Hmwd : Hid (More w wd) := Hwd.out ▸ (More.refl w).drew
 rw [← Hwd.out]
 clear k1 k2 j0 j1 j2 j3 j4
 apply J91
 ·intro key
  refine J31 16 17 (by kernel_rfl) ?_ ?_
  ·refine J09 rfl (by kernel_rfl) (fun K hK => ?_); go_simp
   obtain ⟨w1, Hw1⟩ : ∃ w_ : World, Hid (w_ = wd.alloc (.cells #[V 0, V 0, V 0, V 0, V 0] 41)) := ⟨_, rfl⟩
   have m1 : More wd w1 := Hw1.out ▸ (More.refl _).alloc _ _
   have Hm1 : Hid (More w w1) := Hmwd.out.trans m1
   have Hb1 : Hid (Blk w1 wd.heap.size #[V 0, V 0, V 0, V 0, V 0] 41) := Hw1.out ▸ Blk.last _ _ _
   rw [← Hw1.out]
   clear m1 Hw1
   refine hK _ _ ((HS.out _).2 Hm1.out) ?_; clear hK K
   refine J0n 17 (by kernel_rfl) ?_
   refine J09 rfl (by kernel_rfl) (fun K hK => ?_); go_simp
   obtain ⟨w2, Hw2⟩ : ∃ w_ : World, Hid (w_ = w1.alloc (.cells #[V 0, .bool false, V 0, .bool false, V 0, .bool false, V 0, .bool false, V 0, .bool false, V 0, .bool false, V 0, .bool false, V 0, .bool false] 139)) := ⟨_, rfl⟩
   have m2 : More w1 w2 := Hw2.out ▸ (More.refl _).alloc _ _
   have Hm2 : Hid (More w w2) := Hm1.out.trans m2
   have Hb2 : Hid (Blk w2 w1.heap.size #[V 0, .bool false, V 0, .bool false, V 0, .bool false, V 0, .bool false, V 0, .bool false, V 0, .bool false, V 0, .bool false, V 0, .bool false] 139) := Hw2.out ▸ Blk.last _ _ _
   have Hb1' : Hid (Blk w2 wd.heap.size #[V 0, V 0, V 0, V 0, V 0] 41) := Hb1.out.more m2
   rw [← Hw2.out]
   clear m2 Hw2
   refine hK _ _ ((HS.out _).2 Hm2.out) ?_; clear hK K
   have F : Hid (LdB w (wd.heap.size) (w1.heap.size) w2) := ⟨Hb1'.out, Hb2.out, Hm2.out, Hmwd.out.size, Hm1.out.size, Nat.ne_of_lt Hb1.out.lt⟩
   refine J0t (listed' := #[true, true, true, true, true, true, true, true, true, true, true, true, true, true, true, true, true, true, false, false]) (by kernel_rfl) ?_
   clear Hb1 Hb2 Hb1' Hm2 Hm1
   generalize w1.heap.size = g5 at F ⊢
   generalize wd.heap.size = g4 at F ⊢
   clear w1
   revert w2 g5 g4
   exact key
  ·refine J09 rfl (by kernel_rfl) (fun K hK => ?_); go_simp
   obtain ⟨w1, Hw1⟩ : ∃ w_ : World, Hid (w_ = wd.alloc (.cells #[V 0, .bool false, V 0, .bool false, V 0, .bool false, V 0, .bool false, V 0, .bool false, V 0, .bool false, V 0, .bool false, V 0, .bool false] 139)) := ⟨_, rfl⟩
   have m1 : More wd w1 := Hw1.out ▸ (More.refl _).alloc _ _
   have Hm1 : Hid (More w w1) := Hmwd.out.trans m1
   have Hb1 : Hid (Blk w1 wd.heap.size #[V 0, .bool false, V 0, .bool false, V 0, .bool false, V 0, .bool false, V 0, .bool false, V 0, .bool false, V 0, .bool false, V 0, .bool false] 139) := Hw1.out ▸ Blk.last _ _ _
   rw [← Hw1.out]
   clear m1 Hw1
   refine hK _ _ ((HS.out _).2 Hm1.out) ?_; clear hK K
   refine J0n 16 (by kernel_rfl) ?_
   refine J09 rfl (by kernel_rfl) (fun K hK => ?_); go_simp
   obtain ⟨w2, Hw2⟩ : ∃ w_ : World, Hid (w_ = w1.alloc (.cells #[V 0, V 0, V 0, V 0, V 0] 41)) := ⟨_, rfl⟩
   have m2 : More w1 w2 := Hw2.out ▸ (More.refl _).alloc _ _
   have Hm2 : Hid (More w w2) := Hm1.out.trans m2
   have Hb2 : Hid (Blk w2 w1.heap.size #[V 0, V 0, V 0, V 0, V 0] 41) := Hw2.out ▸ Blk.last _ _ _
   have Hb1' : Hid (Blk w2 wd.heap.size #[V 0, .bool false, V 0, .bool false, V 0, .bool false, V 0, .bool false, V 0, .bool false, V 0, .bool false, V 0, .bool false, V 0, .bool false] 139) := Hb1.out.more m2
   rw [← Hw2.out]
   clear m2 Hw2
   refine hK _ _ ((HS.out _).2 Hm2.out) ?_; clear hK K
   have F : Hid (LdB w (w1.heap.size) (wd.heap.size) w2) := ⟨Hb2.out, Hb1'.out, Hm2.out, Hm1.out.size, Hmwd.out.size, Nat.ne_of_gt Hb1.out.lt⟩
   refine J0t (listed' := #[true, true, true, true, true, true, true, true, true, true, true, true, true, true, true, true, true, true, false, false]) (by kernel_rfl) ?_
   exact key _ _ _ F
 ·intro w1 g5 g4 F
  obtain ⟨w2, Hw2⟩ : ∃ w_ : World, Hid (w_ = w1.setRow g4 #[V op, V a, V b, V c, V n]) := ⟨_, rfl⟩
  obtain ⟨w3, Hw3⟩ : ∃ w_ : World, Hid (w_ = w2.setRow g5 C) := ⟨_, rfl⟩
  have F2 : Hid (Blk w2 g4 #[V op, V a, V b, V c, V n] 41 ∧ Blk w2 g5 (kv zeroK) 139 ∧ More w w2) := by
   rw [Hw2.out]
   exact ⟨F.out.b4.setRow _, F.out.b5.setRow_other F.out.ne.symm _, F.out.up.setRow F.out.lt4 _⟩
  have F3 : Hid (LdF g4 g5 ⟨op, a, b, c, n⟩ s w3 ∧ More w w3) := by
   rw [Hw3.out]
   refine ⟨⟨F2.out.1.setRow_other F.out.ne _, ?_⟩, F2.out.2.2.setRow F.out.lt5 _⟩
   rw [HC.out]
   exact F2.out.2.1.setRow _
  refine J0n 18 (by kernel_rfl) ?_
  refine J09 rfl (by kernel_rfl) (fun K hK => ?_)
  refine wp_store_row 41 (.tmp 5) (.tmp 14) rfl g4 #[V op, V a, V b, V c, V n] rfl rfl 41 #[V 0, V 0, V 0, V 0, V 0] F.out.b4 Jm0 rfl (by simp [Value.oneCell']) ?_
  rw [← Hw2.out]
  refine hK _ _ ((HS.out _).2 F2.out.2.2) ?_; clear hK K
  refine J0n 19 (by kernel_rfl) ?_
  refine J09 rfl (by kernel_rfl) (fun K hK => ?_)
  refine wp_store_row 139 (.tmp 6) (.tmp 22) rfl g5 C rfl rfl 139 _ F2.out.2.1 hiC hz16 hone ?_
  rw [← Hw3.out]
  refine hK _ _ ((HS.out _).2 F3.out.2) ?_; clear hK K
  refine J6h (by kernel_rfl) ?_
  clear hne HS0
  have i0 : w3.cell? ⟨g4, 0, none⟩ = some (V op) := F3.out.1.b4.cell rfl
  have i1 : w3.cell? ⟨g4, 1, none⟩ = some (V a) := F3.out.1.b4.cell rfl
  have i2 : w3.cell? ⟨g4, 2, none⟩ = some (V b) := F3.out.1.b4.cell rfl
  have i3 : w3.cell? ⟨g4, 3, none⟩ = some (V c) := F3.out.1.b4.cell rfl
  have i4 : w3.cell? ⟨g4, 4, none⟩ = some (V n) := F3.out.1.b4.cell rfl
  have Hck3 : Hid (Ck w0 p lo M B l td tv w3) := Hck.out.more F3.out.2
  have hb5 : w3.heap[g5]? = some (.cells C 139 (0, 0)) := by
   have := F3.out.1.b5
   rw [HC.out] at this
   exact this
  obtain ⟨o, ho⟩ : ∃ x, outK p at_ = x := ⟨_, rfl⟩
  obtain ⟨bd, hbd⟩ : ∃ x, J51 p ⟨op, a, b, c, n⟩ s = x := ⟨_, rfl⟩
  obtain ⟨sc, hsc⟩ : ∃ x, J1e p ⟨op, a, b, c, n⟩ s = x := ⟨_, rfl⟩
  have hF : J2q p at_ s = if o || bd then 4 else if sc then 5 else 0 := by unfold J2q; rw [HN.out.2.2.2, ho, hbd, hsc]
  rw [hF] at HP
  have c1 : Calls Tryz.prog 109 #[.pointer (some ⟨M, 0, none⟩), V (at_ : Int)] w3 fun e w' => e = .returned (.bool o) ∧ w' = w3 := by
   have m1 : w3.cell? ⟨M, 1, none⟩ = some (.slice lo.ca p.cl lo.cc) := Hck3.out.box.cell (j := 1) rfl
   rw [Hck3.out.pin.hc (by have := HN.out.2.2.1; omega)] at m1
   have := Ja7 M lo.cb lo.co p.cl lo.cc at_ (p.ins at_).op w3 m1 (Hck3.out.pinw.code at_ HN.out.2.2.1).1 HN.out.2.2.1 HN.out.2.1
   rw [← ho]
   exact this
  have c2 : Calls Tryz.prog 110 #[.pointer (some ⟨M, 0, none⟩), .agg #[V op, V a, V b, V c, V n], .agg C] w3 fun e w' => e = .returned (.bool bd) ∧ More w3 w' := by
   have := J5x p s M lo ⟨op, a, b, c, n⟩ w3 (Hck3.out.box.cell (j := 0) rfl) Hck3.out.pinw Hok.out.1 Hok.out.2 n0
   rw [hbd, HC.out] at this
   exact this
  have c3 : ∀ w4, More w3 w4 → Calls Tryz.prog 111 #[.pointer (some ⟨M, 0, none⟩), .agg #[V op, V a, V b, V c, V n], .agg C] w4 fun e w' => e = .returned (.bool sc) ∧ More w4 w' := by
   intro w4 m4
   have := Jdy p s M lo ⟨op, a, b, c, n⟩ w4 ((Hck3.out.more m4).box.cell (j := 0) rfl) (Hck3.out.more m4).pinw Hok.out.1
   rw [hsc, HC.out] at this
   exact this
  have C3 : Hid (∀ w4, More w3 w4 → Calls Tryz.prog 111 #[.pointer (some ⟨M, 0, none⟩), .agg #[V op, V a, V b, V c, V n], .agg C] w4 fun e w' => e = .returned (.bool sc) ∧ More w4 w') := c3
  clear ho hbd hsc hF c3
  have z4 := F3.out.1.b4.lt
  have z5 := F3.out.1.b5.lt
  go_wp2_with (first | (refine wpList_load_row rfl 139 (.tmp 6) rfl g5 rfl 139 C (0, 0) _ hb5 Tryz.underlying139 rfl hiC ?_))
  refine c1.mono ?_
  rintro e w_ ⟨rfl, rfl⟩
  clear c1
  cases o with
  | true =>
   have Hend : Hid (P (.returned (V 4)) w_) := HP.out _ F3.out.2
   clear HP C3 c2
   go_wp2
   exact Hend.out
  | false =>
   go_wp2_with (first | (refine wpList_load_row rfl 139 (.tmp 6) rfl g5 rfl 139 C (0, 0) _ hb5 Tryz.underlying139 rfl hiC ?_))
   refine c2.mono ?_
   rintro e w4 ⟨rfl, m4⟩
   have Hm4 : Hid (More w_ w4) := m4
   have HF4 : Hid (LdF g4 g5 ⟨op, a, b, c, n⟩ s w4) := F3.out.1.more m4
   clear c2 m4
   cases bd with
   | true =>
    have Hend : Hid (P (.returned (V 4)) w4) := HP.out _ (F3.out.2.trans Hm4.out)
    clear HP C3
    go_wp2
    exact Hend.out
   | false =>
    have c3 := C3.out w4 Hm4.out
    clear i0 i1 i2 i3 i4 hb5 z4 z5
    have i0 : w4.cell? ⟨g4, 0, none⟩ = some (V op) := HF4.out.b4.cell rfl
    have i1 : w4.cell? ⟨g4, 1, none⟩ = some (V a) := HF4.out.b4.cell rfl
    have i2 : w4.cell? ⟨g4, 2, none⟩ = some (V b) := HF4.out.b4.cell rfl
    have i3 : w4.cell? ⟨g4, 3, none⟩ = some (V c) := HF4.out.b4.cell rfl
    have i4 : w4.cell? ⟨g4, 4, none⟩ = some (V n) := HF4.out.b4.cell rfl
    have hb5 : w4.heap[g5]? = some (.cells C 139 (0, 0)) := by
     have := HF4.out.b5
     rw [HC.out] at this
     exact this
    go_wp2_with (first | (refine wpList_load_row rfl 139 (.tmp 6) rfl g5 rfl 139 C (0, 0) _ hb5 Tryz.underlying139 rfl hiC ?_))
    refine c3.mono ?_
    rintro e w5 ⟨rfl, m5⟩
    have Hm5 : Hid (More w w5) := (F3.out.2.trans Hm4.out).trans m5
    clear c3 m5
    cases sc with
    | true =>
     have Hend : Hid (P (.returned (V 5)) w5) := HP.out _ Hm5.out
     clear HP C3
     go_wp2
     exact Hend.out
    | false =>
     have Hend : Hid (P (.returned (V 0)) w5) := HP.out _ Hm5.out
     clear HP C3
     go_wp2
     exact Hend.out

theorem Je3 {w0 : World} {p : Prg} {lo : Loc} {M B : Nat} {l : KV} {td : List Nat} {tv : Value} {w : World} (h : Ck w0 p lo M B l td tv w) (hp : p.Ok 200 8) (hnr : ∀ i, i < p.cl → -9223372036854775808 ≤ (p.ins i).n ∧ (p.ins i).n ≤ 9223372036854775807) (hn : td.length ≤ 99990) (at_ : Nat) (hat : at_ < p.cl) (s : KS) (hl : l at_ = some s) :
  Calls Tryz.prog 77 #[.pointer (some ⟨M, 0, none⟩), V at_] w fun e w' => e = .returned (V (J2q p at_ s)) ∧ More w w' := by
 have hr := hnr at_ hat
 have hi := hp.2.2.2 at_ hat
 obtain ⟨i, hin⟩ : ∃ i, p.ins at_ = i := ⟨_, rfl⟩
 obtain ⟨op, a, b, c, n⟩ := i
 rw [hin] at hr hi
 exact Jiz h hp.2.2.1 hn at_ hat s hl op a b c n hin hi hp.1 hr.1 hr.2
theorem Jn7 : pv none = #[V 0, .bool false, V 0, .bool false, V 0, .bool false, V 0, .bool false, V 0, .bool false, V 0, .bool false, V 0, .bool false, V 0, .bool false, .bool false] := rfl
theorem Jk3 (o : Option KS) : (Tryz.prog.info? 141).map (·.size) = some (pv o).size := by rw [J3a]; exact Jd1
structure FF (w : World) (wr : World) : Prop where
 r : Blk wr w.heap.size #[V 0, V 0] 52
 m : More w wr

theorem J33 {P : Program} {ops : Array Oper} {rest : List Oper} {o : Oper} {a : Act} {w : World} {Q : Exit → Act → World → Prop} (hgd : o.guard = none) (ty : TypeId) (x y : Operand) (ho : o.op = .store ty x y)
  (g : Nat) (cells : Array Value) (hx : a.eval x = .pointer (some ⟨g, 0, none⟩)) (hy : a.eval y = .agg cells)
  (t : TypeId) (old : Array Value) (hg : w.heap[g]? = some (.cells old t (0, 0))) (hi : (P.info? ty).map (·.size) = some cells.size)
  (hold : old.size = cells.size) (h1 : cells.all (·.oneCell') = true)
  (w' : World) (hw : w' = w.setRow g cells) (h : wpList P ops Q rest (a.put o.dst undef) w') : wpList P ops Q (o :: rest) a w := by
 subst hw
 exact wpList_store_row hgd ty x y ho g cells hx hy t old hg hi hold h1 h

set_option maxHeartbeats 2000000 in
theorem Jco {w0 : World} {p : Prg} {lo : Loc} {M B : Nat} {l : KV} {td : List Nat} {tv : Value} {w : World} (h : Ck w0 p lo M B l td tv w) (hp : p.Ok 200 8) (hnr : ∀ i, i < p.cl → -9223372036854775808 ≤ (p.ins i).n ∧ (p.ins i).n ≤ 9223372036854775807) (hn : td.length ≤ 99990) :
  Calls Tryz.prog 35 #[.pointer (some ⟨M, 0, none⟩)] w fun e w' => e = .returned (.agg #[V (J1c p l).1, V (J1c p l).2]) ∧ More w w' := by
 suffices hP : ∀ P : Ending → World → Prop, (∀ w', More w w' → P (.returned (.agg #[V (J1c p l).1, V (J1c p l).2])) w') → Calls Tryz.prog 35 #[.pointer (some ⟨M, 0, none⟩)] w P from hP _ (fun w' m => ⟨rfl, m⟩)
 intro P hP0
 have HP : Hid (∀ w', More w w' → P (.returned (.agg #[V (J1c p l).1, V (J1c p l).2])) w') := hP0
 clear hP0
 have Hck : Hid (Ck w0 p lo M B l td tv w) := h
 have Hp : Hid (p.Ok 200 8 ∧ (∀ i, i < p.cl → -9223372036854775808 ≤ (p.ins i).n ∧ (p.ins i).n ≤ 9223372036854775807) ∧ td.length ≤ 99990) := ⟨hp, hnr, hn⟩
 have m2 : w.cell? ⟨M, 2, none⟩ = some (.slice (some ⟨B, 0, none⟩) p.cl p.cl) := h.box.cell (j := 2) rfl
 have hM := h.box.lt
 have hcl := hp.2.2.1
 obtain ⟨cl, Hcl⟩ : ∃ x, Hid (p.cl = x) := ⟨_, rfl⟩
 rw [Hcl.out] at m2 hcl
 have hi2 : ((cl : Int) ≤ 200) := by omega
 clear h hp hnr hn
 go_enter Tryz.func35, Tryz.ntmps35
 go_wp2_with (fail)
 go_loopg [11] cl (fun g iv wr => ∃ k : Nat, k + g = cl ∧ iv = V k ∧ Hid (FF w wr ∧ J1c p l = scanK p l g k))
 case atStart => exact ⟨0, by omega, rfl, ⟨Blk.last _ _ _, (More.refl _).alloc _ _⟩, by unfold J1c; rw [Hcl.out]⟩
 case round =>
  obtain ⟨k, hkg, rfl, Hr⟩ := hrel
  cases gk with
  | zero =>
   obtain rfl : k = cl := by omega
   have hs := Hr.out.2
   rw [scanK] at hs
   have t0 : wr.cell? ⟨w.heap.size, 0, none⟩ = some (V 0) := Hr.out.1.r.cell (j := 0) rfl
   have t1 : wr.cell? ⟨w.heap.size, 1, none⟩ = some (V 0) := Hr.out.1.r.cell (j := 1) rfl
   have u0 := Hr.out.1.r.frozen 0
   have u1 := Hr.out.1.r.frozen 1
   rw [hs] at HP
   clear hs
   go_wp2
   refine bodyPost_ret (v := .agg #[V 0, V 0]) (by simp [results, Tryz.results35, go_sem, *]) rfl (HP.out _ ?_)
   exact (Hr.out.1.m.setCell (by simp) _).setCell (by simp) _
  | succ g =>
   have hk : k < cl := by omega
   have hki : (k : Int) < cl := by omega
   have hk63 : wrap64 ((k : Int) + 1) = (k : Int) + 1 := by unfold wrap64; omega
   have Hk : Hid (k < p.cl) := by show _ < _; rw [Hcl.out]; exact hk
   have Hckr : Hid (Ck w0 p lo M B l td tv wr) := Hck.out.more Hr.out.1.m
   have hpc := Hckr.out.pl.cells Hk.out
   have hip := Jk3 (l k)
   have hone := Jih (l k)
   have hold : (#[V 0, .bool false, V 0, .bool false, V 0, .bool false, V 0, .bool false, V 0, .bool false, V 0, .bool false, V 0, .bool false, V 0, .bool false, .bool false] : Array Value).size = (pv (l k)).size := by rw [J3a]; rfl
   have hlast := Jig (l k)
   obtain ⟨D, hD⟩ : ∃ x, pv (l k) = x := ⟨_, rfl⟩
   rw [hD] at hpc hip hone hold hlast
   obtain ⟨w1, Hw1⟩ : ∃ w_ : World, Hid (w_ = wr.alloc (.cells #[V 0, .bool false, V 0, .bool false, V 0, .bool false, V 0, .bool false, V 0, .bool false, V 0, .bool false, V 0, .bool false, V 0, .bool false, .bool false] 141)) := ⟨_, rfl⟩
   have Hb1 : Hid (Blk w1 wr.heap.size #[V 0, .bool false, V 0, .bool false, V 0, .bool false, V 0, .bool false, V 0, .bool false, V 0, .bool false, V 0, .bool false, V 0, .bool false, .bool false] 141 ∧ More wr w1) := by rw [Hw1.out]; exact ⟨Blk.last _ _ _, (More.refl _).alloc _ _⟩
   obtain ⟨w2, Hw2⟩ : ∃ w_ : World, Hid (w_ = w1.setRow wr.heap.size D) := ⟨_, rfl⟩
   have Hb2 : Hid (Blk w2 wr.heap.size D 141 ∧ More wr w2) := by
    rw [Hw2.out]
    exact ⟨Hb1.out.1.setRow D, Hb1.out.2.setRow (Nat.le_refl _) D⟩
   have x16 := Hb2.out.1.cell hlast
   have hg1 := Hb1.out.1
   unfold Blk at hg1
   clear hD hlast
   cases hl : l k with
   | none =>
    have hs := Hr.out.2
    rw [scanK, hl] at hs
    dsimp only at hs
    rw [hl] at x16
    dsimp only [Option.isSome] at x16
    have HF2 : Hid (FF w w2 ∧ J1c p l = scanK p l g (k + 1)) := ⟨⟨Hr.out.1.r.more Hb2.out.2, Hr.out.1.m.trans Hb2.out.2⟩, hs⟩
    clear hs hl
    go_wp2_with (first
     | (refine J43 rfl 141 (.tmp 14) rfl B (k * 17) rfl D _ hpc Tryz.underlying141 rfl hip ?_)
     | (rw [← Hw1.out]; refine J33 rfl 141 (.tmp 4) (.tmp 15) rfl wr.heap.size D rfl rfl 141 _ hg1 hip hold hone w2 Hw2.out ?_))
    go_roundg g
    case measure => omega
    case rel => exact ⟨k + 1, by omega, by first | rfl | simp, HF2.out⟩
   | some s =>
    have hs := Hr.out.2
    rw [scanK, hl] at hs
    dsimp only at hs
    rw [hl] at x16
    dsimp only [Option.isSome] at x16
    obtain ⟨f, hf⟩ : ∃ x, J2q p k s = x := ⟨_, rfl⟩
    rw [hf] at hs
    have c1 : Calls Tryz.prog 77 #[.pointer (some ⟨M, 0, none⟩), V (k : Int)] w2 fun e w' => e = .returned (V f) ∧ More w2 w' := by
     have := Je3 (Hckr.out.more Hb2.out.2) Hp.out.1 Hp.out.2.1 Hp.out.2.2 k Hk.out s hl
     rw [hf] at this
     exact this
    have HF2 : Hid (FF w w2) := ⟨Hr.out.1.r.more Hb2.out.2, Hr.out.1.m.trans Hb2.out.2⟩
    have Hs : Hid (J1c p l = if f = 0 then scanK p l g (k + 1) else (f, (k : Int))) := hs
    clear hs hl hf
    go_wp2_with (first
     | (refine J43 rfl 141 (.tmp 14) rfl B (k * 17) rfl D _ hpc Tryz.underlying141 rfl hip ?_)
     | (rw [← Hw1.out]; refine J33 rfl 141 (.tmp 4) (.tmp 15) rfl wr.heap.size D rfl rfl 141 _ hg1 hip hold hone w2 Hw2.out ?_))
    refine c1.mono ?_
    rintro e w3 ⟨rfl, m3⟩
    have HF3 : Hid (FF w w3) := ⟨HF2.out.r.more m3, HF2.out.m.trans m3⟩
    clear c1 m3 hpc hip hone hold x16 hg1
    by_cases h0 : f = 0
    ·subst h0
     have Hs' : Hid (J1c p l = scanK p l g (k + 1)) := Hs.out
     clear Hs
     go_wp2
     go_roundg g
     case measure => omega
     case rel => exact ⟨k + 1, by omega, by first | rfl | simp, HF3.out, Hs'.out⟩
    ·have hs := Hs.out
     rw [if_neg h0] at hs
     rw [hs] at HP
     have e0 : (f == 0) = false := by simp [h0]
     have e1 : (f != 0) = true := by simp [h0]
     have t0 : w3.cell? ⟨w.heap.size, 0, none⟩ = some (V 0) := HF3.out.r.cell (j := 0) rfl
     have t1 : w3.cell? ⟨w.heap.size, 1, none⟩ = some (V 0) := HF3.out.r.cell (j := 1) rfl
     have u0 := HF3.out.r.frozen 0
     have u1 := HF3.out.r.frozen 1
     clear hs Hs h0
     go_wp2
     refine bodyPost_ret (v := .agg #[V f, V (k : Int)]) (by simp [results, Tryz.results35, go_sem, *]) rfl (HP.out _ ?_)
     exact (HF3.out.m.setCell (by simp) _).setCell (by simp) _
end
section
open Go.RowKit
set_option maxHeartbeats 400000 in
theorem J60 (ra : Option Addr) (rl rc : Nat) (ca : Option Addr) (cl cc : Nat) (code regs : Int) (b o : Nat) (log : Nat → Int) (sec : Nat → Bool) (w : World)
  (hra : 0 < rl → ra = some ⟨b, o, none⟩) (hr : RegsAt w b o rl log sec) :
  Calls Tryz.prog 93 #[.agg #[.slice ra rl rc, .slice ca cl cc, V code, V regs]] w (Says (J0o rl log) w) := by
 by_cases h6 : 6 < rl
 ·have Hr : Hid (RegsAt w b o rl log sec) := hr
  clear hr
  have h6' : (6 : Int) < (rl : Int) := by omega
  go_enter Tryz.func93, Tryz.ntmps93
  go_wp2
  go_ret
  exact Says.no (fun h => by have := h.1; omega) ((More.refl _).alloc _ _)
 ·have h6' : ¬ (6 : Int) < (rl : Int) := by omega
  have Hr : Hid (RegsAt w b o rl log sec) := hr
  have Ha : Hid (0 < rl → ra = some ⟨b, o, none⟩) := hra
  clear hr hra
  go_enter Tryz.func93, Tryz.ntmps93
  go_wp2
  go_loopg [14] rl (fun g i wr => ∃ k : Nat, k + g = rl ∧ i = V k ∧ (∀ j, j < k → 0 ≤ log j ∧ log j ≤ 6) ∧ More w wr)
  case atStart => exact ⟨0, by omega, rfl, fun j hj => by omega, (More.refl _).alloc _ _⟩
  case round =>
   obtain ⟨k, hkg, rfl, hok, m⟩ := hrel
   have Hm : Hid (More w wr ∧ ∀ j, j < k → 0 ≤ log j ∧ log j ≤ 6) := ⟨m, hok⟩
   clear m hok
   cases gk with
   | zero =>
    obtain rfl : k = rl := by omega
    go_wp2
    go_ret
    exact Says.yes ⟨by omega, Hm.out.2⟩ Hm.out.1
   | succ g =>
    have hk : k < rl := by omega
    have hk' : (k : Int) < (rl : Int) := by omega
    obtain rfl := Ha.out (by omega)
    have hc0 := ((Hr.out.more Hm.out.1) k hk).1
    have hc1 := ((Hr.out.more Hm.out.1) k hk).2
    by_cases hlo : log k < 0
    ·go_wp2
     go_ret
     exact Says.no (fun h => by have := (h.2 k hk).1; omega) (by repeat (first | exact Hm.out.1 | apply More.alloc))
    ·by_cases hhi : 6 < log k
     ·go_wp2
      go_ret
      exact Says.no (fun h => by have := (h.2 k hk).2; omega) (by repeat (first | exact Hm.out.1 | apply More.alloc))
     ·go_wp2
      go_roundg g
      case measure => omega
      case rel =>
       refine ⟨k + 1, by omega, by first | rfl | simp, fun j hj => ?_, by repeat (first | exact Hm.out.1 | apply More.alloc)⟩
       by_cases e : j = k
       ·subst e; omega
       ·exact Hm.out.2 j (by omega)

set_option maxHeartbeats 400000 in
theorem J2s (ra : Option Addr) (rl rc : Nat) (ca : Option Addr) (cl cc : Nat) (code regs : Int) (g n c : Nat) (hn : n ≤ 3) (x : Nat → Int) (w : World)
  (hx : ∀ i, i < n → w.cell? ⟨g, i, none⟩ = some (V (x i))) :
  Calls Tryz.prog 145 #[.agg #[.slice ra rl rc, .slice ca cl cc, V code, V regs], .slice (some ⟨g, 0, none⟩) n c] w (Says (∀ i, i < n → Reg regs (x i)) w) := by
 have Hx : Hid (∀ i, i < n → w.cell? ⟨g, i, none⟩ = some (V (x i))) := hx
 clear hx
 go_enter Tryz.func145, Tryz.ntmps145
 go_wp2
 go_loopg [9] n (fun q i wr => ∃ k : Nat, k + q = n ∧ i = V k ∧ (∀ j, j < k → Reg regs (x j)) ∧ wr = w.alloc (.cells #[.slice ra rl rc, .slice ca cl cc, V code, V regs] 133))
 case atStart => exact ⟨0, by omega, rfl, fun j hj => by omega, rfl⟩
 case round =>
  obtain ⟨k, hkg, rfl, hok, rfl⟩ := hrel
  have Hok : Hid (∀ j, j < k → Reg regs (x j)) := hok
  clear hok
  cases gk with
  | zero =>
   obtain rfl : k = n := by omega
   go_wp2
   go_ret
   exact Says.yes Hok.out ((More.refl _).alloc _ _)
  | succ q =>
   have hk : k < n := by omega
   have hk' : (k : Int) < (n : Int) := by omega
   have hc0 := Hx.out k hk
   have hc := ((More.refl w).alloc #[.slice ra rl rc, .slice ca cl cc, V code, V regs] 133).cell hc0
   clear hc0
   by_cases hlo : x k < 0
   ·go_wp2
    go_ret
    exact Says.no (fun h => by have := (h k hk).1; omega) ((More.refl _).alloc _ _)
   ·by_cases hhi : regs ≤ x k
    ·go_wp2
     go_ret
     exact Says.no (fun h => by have := (h k hk).2; omega) ((More.refl _).alloc _ _)
    ·go_wp2
     go_roundg q
     case measure => omega
     case rel =>
      refine ⟨k + 1, by omega, by first | rfl | simp, fun j hj => ?_, rfl⟩
      by_cases e : j = k
      ·subst e; exact ⟨by omega, by omega⟩
      ·exact Hok.out j (by omega)

theorem J21 (ra : Option Addr) (rl rc : Nat) (ca : Option Addr) (cl cc : Nat) (code regs : Int) (c : Int) (w : World) :
  Calls Tryz.prog 146 #[.agg #[.slice ra rl rc, .slice ca cl cc, V code, V regs], V c] w (Says (Rgn rl c) w) := by
 by_cases h0 : 0 ≤ c
 ·by_cases h1 : c < (rl : Int)
  ·go_enter Tryz.func146, Tryz.ntmps146
   go_wp2
   go_ret
   exact Says.yes ⟨h0, h1⟩ ((More.refl _).alloc _ _)
  ·go_enter Tryz.func146, Tryz.ntmps146
   go_wp2
   go_ret
   exact Says.no (fun h => by have := h.2; omega) ((More.refl _).alloc _ _)
 ·go_enter Tryz.func146, Tryz.ntmps146
  go_wp2
  go_ret
  exact Says.no (fun h => by have := h.1; omega) ((More.refl _).alloc _ _)

theorem J4g (n e : Int) (w : World) : Calls Tryz.prog 147 #[V n, V e] w (Says (Blw n e) w) := by
 by_cases h0 : 0 ≤ n
 ·by_cases h1 : n < e
  ·go_enter Tryz.func147, Tryz.ntmps147
   go_wp2
   go_ret
   exact Says.yes ⟨h0, h1⟩ (More.refl _)
  ·go_enter Tryz.func147, Tryz.ntmps147
   go_wp2
   go_ret
   exact Says.no (fun h => by have := h.2; omega) (More.refl _)
 ·go_enter Tryz.func147, Tryz.ntmps147
  go_wp2
  go_ret
  exact Says.no (fun h => by have := h.1; omega) (More.refl _)

theorem J7y (ra : Option Addr) (rl rc : Nat) (ca : Option Addr) (cl cc : Nat) (code regs : Int) (n : Int) (w : World) :
  Calls Tryz.prog 148 #[.agg #[.slice ra rl rc, .slice ca cl cc, V code, V regs], V n] w (Says (Plc cl n) w) := by
 go_enter Tryz.func148, Tryz.ntmps148
 go_wp2_with (fail)
 refine (J4g _ _ _).mono ?_
 rintro e w1 ⟨r, rfl, hr, m⟩
 have Hr : Hid ((r = true ↔ Plc cl n) ∧ More w w1) := ⟨hr, ((More.refl _).alloc _ _).trans m⟩
 clear hr m
 go_wp2
 go_ret
 exact ⟨r, rfl, Hr.out.1, Hr.out.2⟩

theorem J7l (c : Int) (w : World) : Calls Tryz.prog 149 #[V c] w (Says (Btw 1 4 c) w) := by
 by_cases h0 : 1 ≤ c
 ·by_cases h1 : c ≤ 4
  ·go_enter Tryz.func149, Tryz.ntmps149
   go_wp2
   go_ret
   exact Says.yes ⟨h0, h1⟩ (More.refl _)
  ·go_enter Tryz.func149, Tryz.ntmps149
   go_wp2
   go_ret
   exact Says.no (fun h => by have := h.2; omega) (More.refl _)
 ·go_enter Tryz.func149, Tryz.ntmps149
  go_wp2
  go_ret
  exact Says.no (fun h => by have := h.1; omega) (More.refl _)

theorem J7v (c : Int) (w : World) : Calls Tryz.prog 150 #[V c] w (Says (Btw 21 30 c) w) := by
 by_cases h0 : 21 ≤ c
 ·by_cases h1 : c ≤ 30
  ·go_enter Tryz.func150, Tryz.ntmps150
   go_wp2
   go_ret
   exact Says.yes ⟨h0, h1⟩ (More.refl _)
  ·go_enter Tryz.func150, Tryz.ntmps150
   go_wp2
   go_ret
   exact Says.no (fun h => by have := h.2; omega) (More.refl _)
 ·go_enter Tryz.func150, Tryz.ntmps150
  go_wp2
  go_ret
  exact Says.no (fun h => by have := h.1; omega) (More.refl _)

theorem Jca (l : Int) (h0 : 0 ≤ l) (h1 : l ≤ 6) (n : Int) (hn : n = J0g l) (s : Bool) (w : World) :
  Calls Tryz.prog 94 #[.agg #[V l, .bool s]] w fun e w' => e = .returned (V n) ∧ More w w' := by
 have : l = 0 ∨ l = 1 ∨ l = 2 ∨ l = 3 ∨ l = 4 ∨ l = 5 ∨ l = 6 := by omega
 clear h0 h1
 rcases this with rfl | rfl | rfl | rfl | rfl | rfl | rfl
 all_goals
  simp [J0g] at hn
  subst hn
  go_enter Tryz.func94, Tryz.ntmps94
  go_wp2
  go_ret
  exact ⟨rfl, (More.refl _).alloc _ _⟩

theorem J8i (l : Int) (h0 : 0 ≤ l) (h1 : l ≤ 6) (s : Bool) (w : World) :
  Calls Tryz.prog 94 #[.agg #[V l, .bool s]] w fun e w' => e = .returned (V (J0g l)) ∧ More w w' :=
 Jca l h0 h1 _ rfl s w
def J4t (rl : Nat) (log : Nat → Int) (cl : Nat) (regs op a b c n : Int) : Prop :=
 if op = 1 then Reg regs a
 else if op = 2 then Reg regs a ∧ Reg regs b
 else if op = 3 then (Reg regs a ∧ Reg regs b) ∧ Rgn rl c
 else if op = 4 then (Reg regs a ∧ Reg regs b) ∧ Rgn rl c
 else if op = 5 then Reg regs a ∧ Rgn rl c ∧ Wrd log c n
 else if op = 6 then Reg regs a ∧ Rgn rl c ∧ Wrd log c n
 else if op = 7 then Plc cl n
 else if op = 8 then (Reg regs a ∧ Reg regs b) ∧ Btw 1 4 c ∧ Plc cl n
 else if op = 9 then Reg regs a
 else if op = 10 then Reg regs a ∧ Reg regs b
 else if op = 11 then Reg regs a ∧ Btw 1 64 n
 else if op = 12 then True
 else Btw 21 30 op ∧ Reg regs a ∧ Reg regs b ∧ Reg regs c

theorem J1u (ra : Option Addr) (rl rc : Nat) (ca : Option Addr) (cl cc : Nat) (code regs : Int) (g c : Nat) (x : Int) (w : World) (h0 : w.cell? ⟨g, 0, none⟩ = some (V x)) :
  Calls Tryz.prog 145 #[.agg #[.slice ra rl rc, .slice ca cl cc, V code, V regs], .slice (some ⟨g, 0, none⟩) 1 c] w (Says (Reg regs x) w) := by
 refine (J2s ra rl rc ca cl cc code regs g 1 c (by omega) (fun _ => x) w (fun i hi => ?_)).mono ?_
 ·obtain rfl : i = 0 := by omega
  exact h0
 ·rintro e w' ⟨r, rfl, hr, m⟩
  exact ⟨r, rfl, hr.trans ⟨fun h => h 0 (by omega), fun h _ _ => h⟩, m⟩

theorem J3j (ra : Option Addr) (rl rc : Nat) (ca : Option Addr) (cl cc : Nat) (code regs : Int) (g c : Nat) (x y : Int) (w : World) (h0 : w.cell? ⟨g, 0, none⟩ = some (V x)) (h1 : w.cell? ⟨g, 1, none⟩ = some (V y)) :
  Calls Tryz.prog 145 #[.agg #[.slice ra rl rc, .slice ca cl cc, V code, V regs], .slice (some ⟨g, 0, none⟩) 2 c] w (Says (Reg regs x ∧ Reg regs y) w) := by
 refine (J2s ra rl rc ca cl cc code regs g 2 c (by omega) (fun i => if i = 0 then x else y) w (fun i hi => ?_)).mono ?_
 ·have : i = 0 ∨ i = 1 := by omega
  rcases this with rfl | rfl
  ·exact h0
  ·exact h1
 ·rintro e w' ⟨r, rfl, hr, m⟩
  refine ⟨r, rfl, hr.trans ⟨fun h => ⟨h 0 (by omega), h 1 (by omega)⟩, fun h i hi => ?_⟩, m⟩
  have : i = 0 ∨ i = 1 := by omega
  rcases this with rfl | rfl
  ·exact h.1
  ·exact h.2

theorem Jgh (ra : Option Addr) (rl rc : Nat) (ca : Option Addr) (cl cc : Nat) (code regs : Int) (g c : Nat) (x y z : Int) (w : World) (h0 : w.cell? ⟨g, 0, none⟩ = some (V x)) (h1 : w.cell? ⟨g, 1, none⟩ = some (V y)) (h2 : w.cell? ⟨g, 2, none⟩ = some (V z)) :
  Calls Tryz.prog 145 #[.agg #[.slice ra rl rc, .slice ca cl cc, V code, V regs], .slice (some ⟨g, 0, none⟩) 3 c] w (Says (Reg regs x ∧ Reg regs y ∧ Reg regs z) w) := by
 refine (J2s ra rl rc ca cl cc code regs g 3 c (by omega) (fun i => if i = 0 then x else if i = 1 then y else z) w (fun i hi => ?_)).mono ?_
 ·have : i = 0 ∨ i = 1 ∨ i = 2 := by omega
  rcases this with rfl | rfl | rfl
  ·exact h0
  ·exact h1
  ·exact h2
 ·rintro e w' ⟨r, rfl, hr, m⟩
  refine ⟨r, rfl, hr.trans ⟨fun h => ⟨h 0 (by omega), h 1 (by omega), h 2 (by omega)⟩, fun h i hi => ?_⟩, m⟩
  have : i = 0 ∨ i = 1 ∨ i = 2 := by omega
  rcases this with rfl | rfl | rfl
  ·exact h.1
  ·exact h.2.1
  ·exact h.2.2

theorem boxes {w w1 : World} {x0 x1 x2 x3 y0 y1 y2 y3 y4 : Value} {t u : TypeId} (m : More ((w.alloc (.cells #[x0, x1, x2, x3] t)).alloc (.cells #[y0, y1, y2, y3, y4] u)) w1) :
  (w1.cell? ⟨w.heap.size, 0, none⟩ = some x0 ∧ w1.cell? ⟨w.heap.size, 1, none⟩ = some x1 ∧ w1.cell? ⟨w.heap.size, 2, none⟩ = some x2 ∧ w1.cell? ⟨w.heap.size, 3, none⟩ = some x3) ∧
  w1.cell? ⟨w.heap.size + 1, 0, none⟩ = some y0 ∧ w1.cell? ⟨w.heap.size + 1, 1, none⟩ = some y1 ∧ w1.cell? ⟨w.heap.size + 1, 2, none⟩ = some y2 ∧ w1.cell? ⟨w.heap.size + 1, 3, none⟩ = some y3 ∧ w1.cell? ⟨w.heap.size + 1, 4, none⟩ = some y4 := by
 refine ⟨⟨m.cell (by go_simp), m.cell (by go_simp), m.cell (by go_simp), m.cell (by go_simp)⟩, m.cell (by go_simp), m.cell (by go_simp), m.cell (by go_simp), m.cell (by go_simp), m.cell (by go_simp)⟩

theorem Jjl (ra : Option Addr) (rl rc : Nat) (ca : Option Addr) (cl cc : Nat) (code regs : Int) (a b c n : Int) (w : World) :
  Calls Tryz.prog 127 #[.agg #[.slice ra rl rc, .slice ca cl cc, V code, V regs], .agg #[V 1, V a, V b, V c, V n]] w (Says (Reg regs a) w) := by
 go_enter Tryz.func127, Tryz.ntmps127
 go_wp2_with (fail)
 refine (J1u ra rl rc ca cl cc code regs _ _ a _ (by go_simp)).mono ?_
 rintro e w1 ⟨r, rfl, hr, m⟩
 have Hr : Hid ((r = true ↔ Reg regs a) ∧ More w w1) := ⟨hr, ((((More.refl _).alloc _ _).alloc _ _).alloc _ _).trans m⟩
 clear hr m
 go_wp2
 go_ret
 exact ⟨r, rfl, Hr.out.1, Hr.out.2⟩

theorem Jjt (ra : Option Addr) (rl rc : Nat) (ca : Option Addr) (cl cc : Nat) (code regs : Int) (a b c n : Int) (w : World) :
  Calls Tryz.prog 127 #[.agg #[.slice ra rl rc, .slice ca cl cc, V code, V regs], .agg #[V 9, V a, V b, V c, V n]] w (Says (Reg regs a) w) := by
 go_enter Tryz.func127, Tryz.ntmps127
 go_wp2_with (fail)
 refine (J1u ra rl rc ca cl cc code regs _ _ a _ (by go_simp)).mono ?_
 rintro e w1 ⟨r, rfl, hr, m⟩
 have Hr : Hid ((r = true ↔ Reg regs a) ∧ More w w1) := ⟨hr, ((((More.refl _).alloc _ _).alloc _ _).alloc _ _).trans m⟩
 clear hr m
 go_wp2
 go_ret
 exact ⟨r, rfl, Hr.out.1, Hr.out.2⟩

theorem Jjm (ra : Option Addr) (rl rc : Nat) (ca : Option Addr) (cl cc : Nat) (code regs : Int) (a b c n : Int) (w : World) :
  Calls Tryz.prog 127 #[.agg #[.slice ra rl rc, .slice ca cl cc, V code, V regs], .agg #[V 2, V a, V b, V c, V n]] w (Says (Reg regs a ∧ Reg regs b) w) := by
 go_enter Tryz.func127, Tryz.ntmps127
 go_wp2_with (fail)
 refine (J3j ra rl rc ca cl cc code regs _ _ a b _ (by go_simp) (by go_simp)).mono ?_
 rintro e w1 ⟨r, rfl, hr, m⟩
 have Hr : Hid ((r = true ↔ Reg regs a ∧ Reg regs b) ∧ More w w1) := ⟨hr, ((((More.refl _).alloc _ _).alloc _ _).alloc _ _).trans m⟩
 clear hr m
 go_wp2
 go_ret
 exact ⟨r, rfl, Hr.out.1, Hr.out.2⟩

theorem Jhc (ra : Option Addr) (rl rc : Nat) (ca : Option Addr) (cl cc : Nat) (code regs : Int) (a b c n : Int) (w : World) :
  Calls Tryz.prog 127 #[.agg #[.slice ra rl rc, .slice ca cl cc, V code, V regs], .agg #[V 10, V a, V b, V c, V n]] w (Says (Reg regs a ∧ Reg regs b) w) := by
 go_enter Tryz.func127, Tryz.ntmps127
 go_wp2_with (fail)
 refine (J3j ra rl rc ca cl cc code regs _ _ a b _ (by go_simp) (by go_simp)).mono ?_
 rintro e w1 ⟨r, rfl, hr, m⟩
 have Hr : Hid ((r = true ↔ Reg regs a ∧ Reg regs b) ∧ More w w1) := ⟨hr, ((((More.refl _).alloc _ _).alloc _ _).alloc _ _).trans m⟩
 clear hr m
 go_wp2
 go_ret
 exact ⟨r, rfl, Hr.out.1, Hr.out.2⟩

theorem Jjn (ra : Option Addr) (rl rc : Nat) (ca : Option Addr) (cl cc : Nat) (code regs : Int) (a b c n : Int) (w : World) :
  Calls Tryz.prog 127 #[.agg #[.slice ra rl rc, .slice ca cl cc, V code, V regs], .agg #[V 3, V a, V b, V c, V n]] w (Says ((Reg regs a ∧ Reg regs b) ∧ Rgn rl c) w) := by
 go_enter Tryz.func127, Tryz.ntmps127
 go_wp2_with (fail)
 refine (J3j ra rl rc ca cl cc code regs _ _ a b _ (by go_simp) (by go_simp)).mono ?_
 rintro e w1 ⟨r, rfl, hr, m⟩
 obtain ⟨⟨c0, c1, c2, c3⟩, d0, d1, d2, d3, d4⟩ := boxes (((More.refl _).alloc _ _).trans m)
 have m' := ((((More.refl _).alloc _ _).alloc _ _).alloc _ _).trans m
 have Hm : Hid (More w w1) := m'
 clear m m'
 cases r with
 | false =>
  have Hr : Hid (¬ (Reg regs a ∧ Reg regs b)) := fun h => by simpa using hr.2 h
  clear hr
  go_wp2
  go_ret
  exact Says.no (fun h => Hr.out h.1) Hm.out
 | true =>
  have Hr : Hid (Reg regs a ∧ Reg regs b) := hr.1 rfl
  clear hr
  go_wp2_with (fail)
  refine (J21 ra rl rc ca cl cc code regs c _).mono ?_
  rintro e w2 ⟨r2, rfl, hr2, m2⟩
  have H2 : Hid ((r2 = true ↔ Rgn rl c) ∧ More w1 w2) := ⟨hr2, m2⟩
  clear hr2 m2
  go_wp2
  go_ret
  exact ⟨r2, rfl, H2.out.1.trans ⟨fun h => ⟨Hr.out, h⟩, fun h => h.2⟩, Hm.out.trans H2.out.2⟩

theorem Jjo (ra : Option Addr) (rl rc : Nat) (ca : Option Addr) (cl cc : Nat) (code regs : Int) (a b c n : Int) (w : World) :
  Calls Tryz.prog 127 #[.agg #[.slice ra rl rc, .slice ca cl cc, V code, V regs], .agg #[V 4, V a, V b, V c, V n]] w (Says ((Reg regs a ∧ Reg regs b) ∧ Rgn rl c) w) := by
 go_enter Tryz.func127, Tryz.ntmps127
 go_wp2_with (fail)
 refine (J3j ra rl rc ca cl cc code regs _ _ a b _ (by go_simp) (by go_simp)).mono ?_
 rintro e w1 ⟨r, rfl, hr, m⟩
 obtain ⟨⟨c0, c1, c2, c3⟩, d0, d1, d2, d3, d4⟩ := boxes (((More.refl _).alloc _ _).trans m)
 have m' := ((((More.refl _).alloc _ _).alloc _ _).alloc _ _).trans m
 have Hm : Hid (More w w1) := m'
 clear m m'
 cases r with
 | false =>
  have Hr : Hid (¬ (Reg regs a ∧ Reg regs b)) := fun h => by simpa using hr.2 h
  clear hr
  go_wp2
  go_ret
  exact Says.no (fun h => Hr.out h.1) Hm.out
 | true =>
  have Hr : Hid (Reg regs a ∧ Reg regs b) := hr.1 rfl
  clear hr
  go_wp2_with (fail)
  refine (J21 ra rl rc ca cl cc code regs c _).mono ?_
  rintro e w2 ⟨r2, rfl, hr2, m2⟩
  have H2 : Hid ((r2 = true ↔ Rgn rl c) ∧ More w1 w2) := ⟨hr2, m2⟩
  clear hr2 m2
  go_wp2
  go_ret
  exact ⟨r2, rfl, H2.out.1.trans ⟨fun h => ⟨Hr.out, h⟩, fun h => h.2⟩, Hm.out.trans H2.out.2⟩

theorem Jjr (ra : Option Addr) (rl rc : Nat) (ca : Option Addr) (cl cc : Nat) (code regs : Int) (a b c n : Int) (w : World) :
  Calls Tryz.prog 127 #[.agg #[.slice ra rl rc, .slice ca cl cc, V code, V regs], .agg #[V 7, V a, V b, V c, V n]] w (Says (Plc cl n) w) := by
 go_enter Tryz.func127, Tryz.ntmps127
 go_wp2_with (fail)
 refine (J7y ra rl rc ca cl cc code regs n _).mono ?_
 rintro e w1 ⟨r, rfl, hr, m⟩
 have Hr : Hid ((r = true ↔ Plc cl n) ∧ More w w1) := ⟨hr, (((More.refl _).alloc _ _).alloc _ _).trans m⟩
 clear hr m
 go_wp2
 go_ret
 exact ⟨r, rfl, Hr.out.1, Hr.out.2⟩

theorem Jjs (ra : Option Addr) (rl rc : Nat) (ca : Option Addr) (cl cc : Nat) (code regs : Int) (a b c n : Int) (w : World) :
  Calls Tryz.prog 127 #[.agg #[.slice ra rl rc, .slice ca cl cc, V code, V regs], .agg #[V 8, V a, V b, V c, V n]] w (Says ((Reg regs a ∧ Reg regs b) ∧ Btw 1 4 c ∧ Plc cl n) w) := by
 go_enter Tryz.func127, Tryz.ntmps127
 go_wp2_with (fail)
 refine (J3j ra rl rc ca cl cc code regs _ _ a b _ (by go_simp) (by go_simp)).mono ?_
 rintro e w1 ⟨r, rfl, hr, m⟩
 obtain ⟨⟨c0, c1, c2, c3⟩, d0, d1, d2, d3, d4⟩ := boxes (((More.refl _).alloc _ _).trans m)
 have m' := ((((More.refl _).alloc _ _).alloc _ _).alloc _ _).trans m
 have Hm : Hid (More w w1) := m'
 clear m m'
 cases r with
 | false =>
  have Hr : Hid (¬ (Reg regs a ∧ Reg regs b)) := fun h => by simpa using hr.2 h
  clear hr
  go_wp2
  go_ret
  exact Says.no (fun h => Hr.out h.1) Hm.out
 | true =>
  have Hr : Hid (Reg regs a ∧ Reg regs b) := hr.1 rfl
  clear hr
  go_wp2_with (fail)
  refine (J7l c _).mono ?_
  rintro e w2 ⟨r2, rfl, hr2, m2⟩
  have e0 := m2.cell c0
  have e1 := m2.cell c1
  have e2 := m2.cell c2
  have e3 := m2.cell c3
  have e4 := m2.cell d4
  clear c0 c1 c2 c3 d0 d1 d2 d3 d4
  have H2m : Hid (More w1 w2) := m2
  clear m2
  cases r2 with
  | false =>
   have H2 : Hid (¬ Btw 1 4 c) := fun h => by simpa using hr2.2 h
   clear hr2
   go_wp2
   go_ret
   exact Says.no (fun h => H2.out h.2.1) (Hm.out.trans H2m.out)
  | true =>
   have H2 : Hid (Btw 1 4 c) := hr2.1 rfl
   clear hr2
   go_wp2_with (fail)
   refine (J7y ra rl rc ca cl cc code regs n _).mono ?_
   rintro e w3 ⟨r3, rfl, hr3, m3⟩
   have H3 : Hid ((r3 = true ↔ Plc cl n) ∧ More w2 w3) := ⟨hr3, m3⟩
   clear hr3 m3
   go_wp2
   go_ret
   exact ⟨r3, rfl, H3.out.1.trans ⟨fun h => ⟨Hr.out, H2.out, h⟩, fun h => h.2.2⟩, (Hm.out.trans H2m.out).trans H3.out.2⟩

theorem Jhd (ra : Option Addr) (rl rc : Nat) (ca : Option Addr) (cl cc : Nat) (code regs : Int) (a b c n : Int) (w : World) :
  Calls Tryz.prog 127 #[.agg #[.slice ra rl rc, .slice ca cl cc, V code, V regs], .agg #[V 11, V a, V b, V c, V n]] w (Says (Reg regs a ∧ Btw 1 64 n) w) := by
 go_enter Tryz.func127, Tryz.ntmps127
 go_wp2_with (fail)
 refine (J1u ra rl rc ca cl cc code regs _ _ a _ (by go_simp)).mono ?_
 rintro e w1 ⟨r, rfl, hr, m⟩
 obtain ⟨⟨c0, c1, c2, c3⟩, d0, d1, d2, d3, d4⟩ := boxes (((More.refl _).alloc _ _).trans m)
 have m' := ((((More.refl _).alloc _ _).alloc _ _).alloc _ _).trans m
 have Hm : Hid (More w w1) := m'
 clear m m'
 cases r with
 | false =>
  have Hr : Hid (¬ (Reg regs a)) := fun h => by simpa using hr.2 h
  clear hr
  go_wp2
  go_ret
  exact Says.no (fun h => Hr.out h.1) Hm.out
 | true =>
  have Hr : Hid (Reg regs a) := hr.1 rfl
  clear hr
  by_cases h0 : 1 ≤ n
  ·by_cases h1 : n ≤ 64
   ·go_wp2
    go_ret
    exact Says.yes ⟨Hr.out, h0, h1⟩ Hm.out
   ·go_wp2
    go_ret
    exact ⟨_, rfl, ⟨fun h => by simp at h <;> omega, fun h => by have := h.2.2; omega⟩, Hm.out⟩
  ·go_wp2
   go_ret
   exact Says.no (fun h => by have := h.2.1; omega) Hm.out

theorem Jhe (ra : Option Addr) (rl rc : Nat) (ca : Option Addr) (cl cc : Nat) (code regs : Int) (a b c n : Int) (w : World) :
  Calls Tryz.prog 127 #[.agg #[.slice ra rl rc, .slice ca cl cc, V code, V regs], .agg #[V 12, V a, V b, V c, V n]] w (Says (True) w) := by
 go_enter Tryz.func127, Tryz.ntmps127
 go_wp2
 go_ret
 exact Says.yes trivial (((More.refl _).alloc _ _).alloc _ _)

theorem Jcm (ra : Option Addr) (rl rc : Nat) (ca : Option Addr) (cl cc : Nat) (code regs : Int) (op a b c n : Int) (h1 : ¬ op = 1) (h2 : ¬ op = 2) (h3 : ¬ op = 3) (h4 : ¬ op = 4) (h5 : ¬ op = 5) (h6 : ¬ op = 6) (h7 : ¬ op = 7) (h8 : ¬ op = 8) (h9 : ¬ op = 9) (h10 : ¬ op = 10) (h11 : ¬ op = 11) (h12 : ¬ op = 12) (w : World) :
  Calls Tryz.prog 127 #[.agg #[.slice ra rl rc, .slice ca cl cc, V code, V regs], .agg #[V op, V a, V b, V c, V n]] w (Says (Btw 21 30 op ∧ Reg regs a ∧ Reg regs b ∧ Reg regs c) w) := by
 go_enter Tryz.func127, Tryz.ntmps127
 go_wp2_with (fail)
 clear h1 h2 h3 h4 h5 h6 h7 h8 h9 h10 h11 h12
 refine (J7v op _).mono ?_
 rintro e w1 ⟨r, rfl, hr, m⟩
 obtain ⟨⟨c0, c1, c2, c3⟩, d0, d1, d2, d3, d4⟩ := boxes m
 have Hm : Hid (More w w1) := (((More.refl _).alloc _ _).alloc _ _).trans m
 clear m
 cases r with
 | false =>
  have Hr : Hid (¬ (Btw 21 30 op)) := fun h => by simpa using hr.2 h
  clear hr
  go_wp2
  go_ret
  exact Says.no (fun h => Hr.out h.1) Hm.out
 | true =>
  have Hr : Hid (Btw 21 30 op) := hr.1 rfl
  clear hr
  go_wp2_with (fail)
  refine (Jgh ra rl rc ca cl cc code regs _ _ a b c _ (by go_simp) (by go_simp) (by go_simp)).mono ?_
  rintro e w2 ⟨r2, rfl, hr2, m2⟩
  have H2 : Hid ((r2 = true ↔ Reg regs a ∧ Reg regs b ∧ Reg regs c) ∧ More w1 w2) := ⟨hr2, ((More.refl _).alloc _ _).trans m2⟩
  clear hr2 m2
  go_wp2
  go_ret
  exact ⟨r2, rfl, H2.out.1.trans ⟨fun h => ⟨Hr.out, h⟩, fun h => h.2⟩, Hm.out.trans H2.out.2⟩
set_option maxHeartbeats 1000000 in
theorem J49 (ov_ : Int) (hov_ : ov_ = 5 ∨ ov_ = 6) (ra : Option Addr) (rl rc : Nat) (ca : Option Addr) (cl cc : Nat) (code regs : Int) (a b c n : Int) (w : World)
  (creg : ∀ (g cp : Nat) (w : World), w.cell? ⟨g, 0, none⟩ = some (V a) → Calls Tryz.prog 145 #[.agg #[.slice ra rl rc, .slice ca cl cc, V code, V regs], .slice (some ⟨g, 0, none⟩) 1 cp] w fun e w' => e = .returned (.bool false) ∧ More w w') :
  Calls Tryz.prog 127 #[.agg #[.slice ra rl rc, .slice ca cl cc, V code, V regs], .agg #[V ov_, V a, V b, V c, V n]] w fun e w' => e = .returned (.bool false) ∧ More w w' := by
 have Hcreg : Hid (∀ (g cp : Nat) (w : World), w.cell? ⟨g, 0, none⟩ = some (V a) → Calls Tryz.prog 145 #[.agg #[.slice ra rl rc, .slice ca cl cc, V code, V regs], .slice (some ⟨g, 0, none⟩) 1 cp] w fun e w' => e = .returned (.bool false) ∧ More w w') := creg
 clear creg
 obtain ⟨W, HW⟩ : ∃ W : World, Hid (W = ((w.alloc (.cells #[.slice ra rl rc, .slice ca cl cc, V code, V regs] 133)).alloc (.cells #[V ov_, V a, V b, V c, V n] 41))) := ⟨_, rfl⟩
 rcases hov_ with rfl | rfl
 all_goals
  have Hw : Hid (More w W) := HW.out ▸ (((More.refl _).alloc _ _).alloc _ _)
  obtain ⟨S, HS⟩ : ∃ S : World → Prop, Hid (∀ w', S w' ↔ More W w') := ⟨fun w' => More W w', fun _ => Iff.rfl⟩
  have k00 : ∀ i : { w' // S w' }, i.val.cell? ⟨w.heap.size, 0, none⟩ = some (.slice ra rl rc) := fun i => ((HS.out _).1 i.property).cell (by rw [HW.out]; go_simp)
  have k01 : ∀ i : { w' // S w' }, i.val.cell? ⟨w.heap.size, 1, none⟩ = some (.slice ca cl cc) := fun i => ((HS.out _).1 i.property).cell (by rw [HW.out]; go_simp)
  have k02 : ∀ i : { w' // S w' }, i.val.cell? ⟨w.heap.size, 2, none⟩ = some (V code) := fun i => ((HS.out _).1 i.property).cell (by rw [HW.out]; go_simp)
  have k03 : ∀ i : { w' // S w' }, i.val.cell? ⟨w.heap.size, 3, none⟩ = some (V regs) := fun i => ((HS.out _).1 i.property).cell (by rw [HW.out]; go_simp)
  have k11 : ∀ i : { w' // S w' }, i.val.cell? ⟨w.heap.size + 1, 1, none⟩ = some (V a) := fun i => ((HS.out _).1 i.property).cell (by rw [HW.out]; go_simp)
  have k13 : ∀ i : { w' // S w' }, i.val.cell? ⟨w.heap.size + 1, 3, none⟩ = some (V c) := fun i => ((HS.out _).1 i.property).cell (by rw [HW.out]; go_simp)
  have k14 : ∀ i : { w' // S w' }, i.val.cell? ⟨w.heap.size + 1, 4, none⟩ = some (V n) := fun i => ((HS.out _).1 i.property).cell (by rw [HW.out]; go_simp)
  have hne : Nonempty { w' // S w' } := ⟨⟨W, (HS.out _).2 (More.refl _)⟩⟩
  go_enter Tryz.func127, Tryz.ntmps127
  go_wp2_with (fail)
  refine J03 (S := S) [(0, true), (1, true), (2, true), (3, false), (4, false), (5, true), (6, true), (7, true), (8, true), (9, false), (10, true), (11, true), (12, true), (13, true), (14, true), (15, true), (16, true), (17, true), (18, true), (19, true), (20, true), (21, false), (22, false), (23, true), (24, true)] (by kernel_rfl) (by kernel_rfl) (by kernel_rfl) ((HS.out _).2 (HW.out ▸ (More.refl _).drew)) ?_
  iterate 3 (refine J01 rfl (by kernel_rfl) (fun K hK => ?_); go_simp; refine hK _ _ ?_; clear hK K)
  refine J02 rfl (by kernel_rfl) (fun K hK => ?_); go_simp; refine hK _ _ ((HS.out _).2 (HW.out ▸ (by repeat (first | exact More.refl _ | apply More.drew | apply More.alloc)))) ?_; clear hK K
  refine J02 rfl (by kernel_rfl) (fun K hK => ?_); go_simp
  refine (Hcreg.out _ _ _ (by go_simp)).mono ?_
  rintro e w1 ⟨rfl, m1⟩
  go_simp
  have Hm1 : Hid (More W w1) := HW.out ▸ More.trans (by repeat (first | exact More.refl _ | apply More.drew | apply More.alloc)) m1
  clear m1
  refine hK _ _ ((HS.out _).2 Hm1.out) ?_; clear hK K
  refine J23 rfl rfl (by kernel_rfl) (fun K hK => ?_); go_simp; refine hK _ _ ?_; clear hK K
  iterate 4 (refine J24 rfl ((HS.out _).2 Hm1.out) (by kernel_rfl) (by kernel_rfl) ?_)
  refine J0z rfl rfl (by kernel_rfl) rfl (fun K hK => ?_); go_simp; refine hK _ _ ?_; clear hK K
  refine J23 rfl rfl (by kernel_rfl) (fun K hK => ?_); go_simp; refine hK _ _ ?_; clear hK K
  iterate 11 (refine J24 rfl ((HS.out _).2 Hm1.out) (by kernel_rfl) (by kernel_rfl) ?_)
  refine J0z rfl rfl (by kernel_rfl) rfl (fun K hK => ?_); go_simp; refine hK _ _ ?_; clear hK K
  refine J4r rfl rfl (by kernel_rfl) (fun K hK => ?_); go_simp; refine hK _ _ ?_; clear hK K
  refine J07 ?_
  go_wp2
  go_ret
  exact ⟨rfl, Hw.out.trans Hm1.out⟩

set_option maxHeartbeats 1000000 in
theorem J4a (ov_ : Int) (hov_ : ov_ = 5 ∨ ov_ = 6) (ra : Option Addr) (rl rc : Nat) (ca : Option Addr) (cl cc : Nat) (code regs : Int) (a b c n : Int) (w : World)
  (creg : ∀ (g cp : Nat) (w : World), w.cell? ⟨g, 0, none⟩ = some (V a) → Calls Tryz.prog 145 #[.agg #[.slice ra rl rc, .slice ca cl cc, V code, V regs], .slice (some ⟨g, 0, none⟩) 1 cp] w fun e w' => e = .returned (.bool true) ∧ More w w')
  (crgn : ∀ (w : World), Calls Tryz.prog 146 #[.agg #[.slice ra rl rc, .slice ca cl cc, V code, V regs], V c] w fun e w' => e = .returned (.bool false) ∧ More w w') :
  Calls Tryz.prog 127 #[.agg #[.slice ra rl rc, .slice ca cl cc, V code, V regs], .agg #[V ov_, V a, V b, V c, V n]] w fun e w' => e = .returned (.bool false) ∧ More w w' := by
 have Hcreg : Hid (∀ (g cp : Nat) (w : World), w.cell? ⟨g, 0, none⟩ = some (V a) → Calls Tryz.prog 145 #[.agg #[.slice ra rl rc, .slice ca cl cc, V code, V regs], .slice (some ⟨g, 0, none⟩) 1 cp] w fun e w' => e = .returned (.bool true) ∧ More w w') := creg
 clear creg
 have Hcrgn : Hid (∀ (w : World), Calls Tryz.prog 146 #[.agg #[.slice ra rl rc, .slice ca cl cc, V code, V regs], V c] w fun e w' => e = .returned (.bool false) ∧ More w w') := crgn
 clear crgn
 obtain ⟨W, HW⟩ : ∃ W : World, Hid (W = ((w.alloc (.cells #[.slice ra rl rc, .slice ca cl cc, V code, V regs] 133)).alloc (.cells #[V ov_, V a, V b, V c, V n] 41))) := ⟨_, rfl⟩
 rcases hov_ with rfl | rfl
 all_goals
  have Hw : Hid (More w W) := HW.out ▸ (((More.refl _).alloc _ _).alloc _ _)
  obtain ⟨S, HS⟩ : ∃ S : World → Prop, Hid (∀ w', S w' ↔ More W w') := ⟨fun w' => More W w', fun _ => Iff.rfl⟩
  have k00 : ∀ i : { w' // S w' }, i.val.cell? ⟨w.heap.size, 0, none⟩ = some (.slice ra rl rc) := fun i => ((HS.out _).1 i.property).cell (by rw [HW.out]; go_simp)
  have k01 : ∀ i : { w' // S w' }, i.val.cell? ⟨w.heap.size, 1, none⟩ = some (.slice ca cl cc) := fun i => ((HS.out _).1 i.property).cell (by rw [HW.out]; go_simp)
  have k02 : ∀ i : { w' // S w' }, i.val.cell? ⟨w.heap.size, 2, none⟩ = some (V code) := fun i => ((HS.out _).1 i.property).cell (by rw [HW.out]; go_simp)
  have k03 : ∀ i : { w' // S w' }, i.val.cell? ⟨w.heap.size, 3, none⟩ = some (V regs) := fun i => ((HS.out _).1 i.property).cell (by rw [HW.out]; go_simp)
  have k11 : ∀ i : { w' // S w' }, i.val.cell? ⟨w.heap.size + 1, 1, none⟩ = some (V a) := fun i => ((HS.out _).1 i.property).cell (by rw [HW.out]; go_simp)
  have k13 : ∀ i : { w' // S w' }, i.val.cell? ⟨w.heap.size + 1, 3, none⟩ = some (V c) := fun i => ((HS.out _).1 i.property).cell (by rw [HW.out]; go_simp)
  have k14 : ∀ i : { w' // S w' }, i.val.cell? ⟨w.heap.size + 1, 4, none⟩ = some (V n) := fun i => ((HS.out _).1 i.property).cell (by rw [HW.out]; go_simp)
  have hne : Nonempty { w' // S w' } := ⟨⟨W, (HS.out _).2 (More.refl _)⟩⟩
  go_enter Tryz.func127, Tryz.ntmps127
  go_wp2_with (fail)
  refine J03 (S := S) [(0, true), (1, true), (2, true), (3, false), (4, false), (5, true), (6, true), (7, true), (8, true), (9, false), (10, true), (11, true), (12, true), (13, true), (14, true), (15, true), (16, true), (17, true), (18, true), (19, true), (20, true), (21, false), (22, false), (23, true), (24, true)] (by kernel_rfl) (by kernel_rfl) (by kernel_rfl) ((HS.out _).2 (HW.out ▸ (More.refl _).drew)) ?_
  iterate 3 (refine J01 rfl (by kernel_rfl) (fun K hK => ?_); go_simp; refine hK _ _ ?_; clear hK K)
  refine J02 rfl (by kernel_rfl) (fun K hK => ?_); go_simp; refine hK _ _ ((HS.out _).2 (HW.out ▸ (by repeat (first | exact More.refl _ | apply More.drew | apply More.alloc)))) ?_; clear hK K
  refine J02 rfl (by kernel_rfl) (fun K hK => ?_); go_simp
  refine (Hcreg.out _ _ _ (by go_simp)).mono ?_
  rintro e w1 ⟨rfl, m1⟩
  go_simp
  have Hm1 : Hid (More W w1) := HW.out ▸ More.trans (by repeat (first | exact More.refl _ | apply More.drew | apply More.alloc)) m1
  clear m1
  refine hK _ _ ((HS.out _).2 Hm1.out) ?_; clear hK K
  refine J23 rfl rfl (by kernel_rfl) (fun K hK => ?_); go_simp; refine hK _ _ ?_; clear hK K
  iterate 3 (refine J01 rfl (by kernel_rfl) (fun K hK => ?_); go_simp; refine hK _ _ ?_; clear hK K)
  refine J02 rfl (by kernel_rfl) (fun K hK => ?_); go_simp
  refine (Hcrgn.out _).mono ?_
  rintro e w2 ⟨rfl, m2⟩
  go_simp
  have Hm2 : Hid (More W w2) := Hm1.out.trans m2
  clear m2
  refine hK _ _ ((HS.out _).2 Hm2.out) ?_; clear hK K
  refine J1h rfl rfl (by kernel_rfl) rfl (fun K hK => ?_); go_simp; refine hK _ _ ?_; clear hK K
  refine J23 rfl rfl (by kernel_rfl) (fun K hK => ?_); go_simp; refine hK _ _ ?_; clear hK K
  iterate 11 (refine J24 rfl ((HS.out _).2 Hm2.out) (by kernel_rfl) (by kernel_rfl) ?_)
  refine J0z rfl rfl (by kernel_rfl) rfl (fun K hK => ?_); go_simp; refine hK _ _ ?_; clear hK K
  refine J4r rfl rfl (by kernel_rfl) (fun K hK => ?_); go_simp; refine hK _ _ ?_; clear hK K
  refine J07 ?_
  go_wp2
  go_ret
  exact ⟨rfl, Hw.out.trans Hm2.out⟩

set_option maxHeartbeats 1000000 in
theorem J5t (ov_ : Int) (hov_ : ov_ = 5 ∨ ov_ = 6) (rb ro : Nat) (rl rc : Nat) (ca : Option Addr) (cl cc : Nat) (code regs : Int) (a b c n : Int) (l nw : Int) (s : Bool) (w : World) (h0 : 0 ≤ c) (h1 : c < (rl : Int))
  (hr0 : w.cell? ⟨rb, ro + c.toNat * 2, none⟩ = some (V l)) (hr1 : w.cell? ⟨rb, ro + c.toNat * 2 + 1, none⟩ = some (.bool s))
  (creg : ∀ (g cp : Nat) (w : World), w.cell? ⟨g, 0, none⟩ = some (V a) → Calls Tryz.prog 145 #[.agg #[.slice (some ⟨rb, ro, none⟩) rl rc, .slice ca cl cc, V code, V regs], .slice (some ⟨g, 0, none⟩) 1 cp] w fun e w' => e = .returned (.bool true) ∧ More w w')
  (crgn : ∀ (w : World), Calls Tryz.prog 146 #[.agg #[.slice (some ⟨rb, ro, none⟩) rl rc, .slice ca cl cc, V code, V regs], V c] w fun e w' => e = .returned (.bool true) ∧ More w w')
  (cwrd : ∀ (w : World), Calls Tryz.prog 94 #[.agg #[V l, .bool s]] w fun e w' => e = .returned (V nw) ∧ More w w') :
  Calls Tryz.prog 127 #[.agg #[.slice (some ⟨rb, ro, none⟩) rl rc, .slice ca cl cc, V code, V regs], .agg #[V ov_, V a, V b, V c, V n]] w (Says (Blw n nw) w) := by
 have Hcreg : Hid (∀ (g cp : Nat) (w : World), w.cell? ⟨g, 0, none⟩ = some (V a) → Calls Tryz.prog 145 #[.agg #[.slice (some ⟨rb, ro, none⟩) rl rc, .slice ca cl cc, V code, V regs], .slice (some ⟨g, 0, none⟩) 1 cp] w fun e w' => e = .returned (.bool true) ∧ More w w') := creg
 clear creg
 have Hcrgn : Hid (∀ (w : World), Calls Tryz.prog 146 #[.agg #[.slice (some ⟨rb, ro, none⟩) rl rc, .slice ca cl cc, V code, V regs], V c] w fun e w' => e = .returned (.bool true) ∧ More w w') := crgn
 clear crgn
 have Hcwrd : Hid (∀ (w : World), Calls Tryz.prog 94 #[.agg #[V l, .bool s]] w fun e w' => e = .returned (V nw) ∧ More w w') := cwrd
 clear cwrd
 obtain ⟨W, HW⟩ : ∃ W : World, Hid (W = ((w.alloc (.cells #[.slice (some ⟨rb, ro, none⟩) rl rc, .slice ca cl cc, V code, V regs] 133)).alloc (.cells #[V ov_, V a, V b, V c, V n] 41))) := ⟨_, rfl⟩
 rcases hov_ with rfl | rfl
 all_goals
  have Hw : Hid (More w W) := HW.out ▸ (((More.refl _).alloc _ _).alloc _ _)
  obtain ⟨S, HS⟩ : ∃ S : World → Prop, Hid (∀ w', S w' ↔ More W w') := ⟨fun w' => More W w', fun _ => Iff.rfl⟩
  have k00 : ∀ i : { w' // S w' }, i.val.cell? ⟨w.heap.size, 0, none⟩ = some (.slice (some ⟨rb, ro, none⟩) rl rc) := fun i => ((HS.out _).1 i.property).cell (by rw [HW.out]; go_simp)
  have k01 : ∀ i : { w' // S w' }, i.val.cell? ⟨w.heap.size, 1, none⟩ = some (.slice ca cl cc) := fun i => ((HS.out _).1 i.property).cell (by rw [HW.out]; go_simp)
  have k02 : ∀ i : { w' // S w' }, i.val.cell? ⟨w.heap.size, 2, none⟩ = some (V code) := fun i => ((HS.out _).1 i.property).cell (by rw [HW.out]; go_simp)
  have k03 : ∀ i : { w' // S w' }, i.val.cell? ⟨w.heap.size, 3, none⟩ = some (V regs) := fun i => ((HS.out _).1 i.property).cell (by rw [HW.out]; go_simp)
  have k11 : ∀ i : { w' // S w' }, i.val.cell? ⟨w.heap.size + 1, 1, none⟩ = some (V a) := fun i => ((HS.out _).1 i.property).cell (by rw [HW.out]; go_simp)
  have k13 : ∀ i : { w' // S w' }, i.val.cell? ⟨w.heap.size + 1, 3, none⟩ = some (V c) := fun i => ((HS.out _).1 i.property).cell (by rw [HW.out]; go_simp)
  have k14 : ∀ i : { w' // S w' }, i.val.cell? ⟨w.heap.size + 1, 4, none⟩ = some (V n) := fun i => ((HS.out _).1 i.property).cell (by rw [HW.out]; go_simp)
  have kr0 : ∀ i : { w' // S w' }, i.val.cell? ⟨rb, ro + c.toNat * 2, none⟩ = some (V l) := fun i => ((HS.out _).1 i.property).cell (Hw.out.cell hr0)
  have kr1 : ∀ i : { w' // S w' }, i.val.cell? ⟨rb, ro + c.toNat * 2 + 1, none⟩ = some (.bool s) := fun i => ((HS.out _).1 i.property).cell (Hw.out.cell hr1)
  have hne : Nonempty { w' // S w' } := ⟨⟨W, (HS.out _).2 (More.refl _)⟩⟩
  clear hr0 hr1
  go_enter Tryz.func127, Tryz.ntmps127
  go_wp2_with (fail)
  refine J03 (S := S) [(0, true), (1, true), (2, true), (3, false), (4, false), (5, true), (6, true), (7, true), (8, true), (9, false), (10, true), (11, true), (12, true), (13, true), (14, true), (15, true), (16, true), (17, true), (18, true), (19, true), (20, true), (21, false), (22, false), (23, true), (24, true)] (by kernel_rfl) (by kernel_rfl) (by kernel_rfl) ((HS.out _).2 (HW.out ▸ (More.refl _).drew)) ?_
  iterate 3 (refine J01 rfl (by kernel_rfl) (fun K hK => ?_); go_simp; refine hK _ _ ?_; clear hK K)
  refine J02 rfl (by kernel_rfl) (fun K hK => ?_); go_simp; refine hK _ _ ((HS.out _).2 (HW.out ▸ (by repeat (first | exact More.refl _ | apply More.drew | apply More.alloc)))) ?_; clear hK K
  refine J02 rfl (by kernel_rfl) (fun K hK => ?_); go_simp
  refine (Hcreg.out _ _ _ (by go_simp)).mono ?_
  rintro e w1 ⟨rfl, m1⟩
  go_simp
  have Hm1 : Hid (More W w1) := HW.out ▸ More.trans (by repeat (first | exact More.refl _ | apply More.drew | apply More.alloc)) m1
  clear m1
  refine hK _ _ ((HS.out _).2 Hm1.out) ?_; clear hK K
  refine J23 rfl rfl (by kernel_rfl) (fun K hK => ?_); go_simp; refine hK _ _ ?_; clear hK K
  iterate 3 (refine J01 rfl (by kernel_rfl) (fun K hK => ?_); go_simp; refine hK _ _ ?_; clear hK K)
  refine J02 rfl (by kernel_rfl) (fun K hK => ?_); go_simp
  refine (Hcrgn.out _).mono ?_
  rintro e w2 ⟨rfl, m2⟩
  go_simp
  have Hm2 : Hid (More W w2) := Hm1.out.trans m2
  clear m2
  refine hK _ _ ((HS.out _).2 Hm2.out) ?_; clear hK K
  refine J1h rfl rfl (by kernel_rfl) rfl (fun K hK => ?_); go_simp; refine hK _ _ ?_; clear hK K
  refine J23 rfl rfl (by kernel_rfl) (fun K hK => ?_); go_simp; refine hK _ _ ?_; clear hK K
  iterate 9 (refine J01 rfl (by kernel_rfl) (fun K hK => ?_); go_simp; refine hK _ _ ?_; clear hK K)
  refine J02 rfl (by kernel_rfl) (fun K hK => ?_); go_simp
  refine (Hcwrd.out _).mono ?_
  rintro e w3 ⟨rfl, m3⟩
  go_simp
  have Hm3 : Hid (More W w3) := Hm2.out.trans m3
  clear m3
  refine hK _ _ ((HS.out _).2 Hm3.out) ?_; clear hK K
  refine J02 rfl (by kernel_rfl) (fun K hK => ?_); go_simp
  refine (J4g n nw _).mono ?_
  rintro e w4 ⟨r, rfl, hr, m4⟩
  have Hr : Hid (r = true ↔ Blw n nw) := hr
  clear hr
  go_simp
  have Hm4 : Hid (More W w4) := Hm3.out.trans m4
  clear m4
  refine hK _ _ ((HS.out _).2 Hm4.out) ?_; clear hK K
  refine J1h rfl rfl (by kernel_rfl) rfl (fun K hK => ?_); go_simp; refine hK _ _ ?_; clear hK K
  refine J4r rfl rfl (by kernel_rfl) (fun K hK => ?_); go_simp; refine hK _ _ ?_; clear hK K
  refine J07 ?_
  go_wp2
  go_ret
  exact ⟨r, rfl, Hr.out, Hw.out.trans Hm4.out⟩
def J1g (op a b c n : Int) : Prop :=
 if op = 1 then b = 0 ∧ c = 0
 else if op = 2 then c = 0 ∧ n = 0
 else if op = 3 then True
 else if op = 4 then True
 else if op = 5 then b = 0
 else if op = 6 then b = 0
 else if op = 7 then a = 0 ∧ b = 0 ∧ c = 0
 else if op = 8 then True
 else if op = 9 then b = 0 ∧ c = 0 ∧ n = 0
 else if op = 10 then c = 0
 else if op = 11 then b = 0 ∧ c = 0
 else if op = 12 then a = 0 ∧ b = 0 ∧ c = 0 ∧ n = 0
 else n = 0

theorem Jmr (a b c n : Int) (w : World) :
  Calls Tryz.prog 126 #[.agg #[V 1, V a, V b, V c, V n]] w fun e w' => e = .returned (.agg #[V 1, V a, V 0, V 0, V n]) ∧ More w w' := by
 go_enter Tryz.func126, Tryz.ntmps126
 go_wp2
 exact bodyPost_ret (by simp [results, Tryz.results126, go_sem]) rfl ⟨rfl, ((More.refl _).alloc _ _).alloc _ _⟩

theorem Jms (a b c n : Int) (w : World) :
  Calls Tryz.prog 126 #[.agg #[V 2, V a, V b, V c, V n]] w fun e w' => e = .returned (.agg #[V 2, V a, V b, V 0, V 0]) ∧ More w w' := by
 go_enter Tryz.func126, Tryz.ntmps126
 go_wp2
 exact bodyPost_ret (by simp [results, Tryz.results126, go_sem]) rfl ⟨rfl, ((More.refl _).alloc _ _).alloc _ _⟩

theorem Jmt (a b c n : Int) (w : World) :
  Calls Tryz.prog 126 #[.agg #[V 3, V a, V b, V c, V n]] w fun e w' => e = .returned (.agg #[V 3, V a, V b, V c, V n]) ∧ More w w' := by
 go_enter Tryz.func126, Tryz.ntmps126
 go_wp2
 exact bodyPost_ret (by simp [results, Tryz.results126, go_sem]) rfl ⟨rfl, ((More.refl _).alloc _ _).alloc _ _⟩

theorem Jmu (a b c n : Int) (w : World) :
  Calls Tryz.prog 126 #[.agg #[V 4, V a, V b, V c, V n]] w fun e w' => e = .returned (.agg #[V 4, V a, V b, V c, V n]) ∧ More w w' := by
 go_enter Tryz.func126, Tryz.ntmps126
 go_wp2
 exact bodyPost_ret (by simp [results, Tryz.results126, go_sem]) rfl ⟨rfl, ((More.refl _).alloc _ _).alloc _ _⟩

theorem Jmv (a b c n : Int) (w : World) :
  Calls Tryz.prog 126 #[.agg #[V 5, V a, V b, V c, V n]] w fun e w' => e = .returned (.agg #[V 5, V a, V 0, V c, V n]) ∧ More w w' := by
 go_enter Tryz.func126, Tryz.ntmps126
 go_wp2
 exact bodyPost_ret (by simp [results, Tryz.results126, go_sem]) rfl ⟨rfl, ((More.refl _).alloc _ _).alloc _ _⟩

theorem Jmw (a b c n : Int) (w : World) :
  Calls Tryz.prog 126 #[.agg #[V 6, V a, V b, V c, V n]] w fun e w' => e = .returned (.agg #[V 6, V a, V 0, V c, V n]) ∧ More w w' := by
 go_enter Tryz.func126, Tryz.ntmps126
 go_wp2
 exact bodyPost_ret (by simp [results, Tryz.results126, go_sem]) rfl ⟨rfl, ((More.refl _).alloc _ _).alloc _ _⟩

theorem Jmx (a b c n : Int) (w : World) :
  Calls Tryz.prog 126 #[.agg #[V 7, V a, V b, V c, V n]] w fun e w' => e = .returned (.agg #[V 7, V 0, V 0, V 0, V n]) ∧ More w w' := by
 go_enter Tryz.func126, Tryz.ntmps126
 go_wp2
 exact bodyPost_ret (by simp [results, Tryz.results126, go_sem]) rfl ⟨rfl, ((More.refl _).alloc _ _).alloc _ _⟩

theorem Jmy (a b c n : Int) (w : World) :
  Calls Tryz.prog 126 #[.agg #[V 8, V a, V b, V c, V n]] w fun e w' => e = .returned (.agg #[V 8, V a, V b, V c, V n]) ∧ More w w' := by
 go_enter Tryz.func126, Tryz.ntmps126
 go_wp2
 exact bodyPost_ret (by simp [results, Tryz.results126, go_sem]) rfl ⟨rfl, ((More.refl _).alloc _ _).alloc _ _⟩

theorem Jmz (a b c n : Int) (w : World) :
  Calls Tryz.prog 126 #[.agg #[V 9, V a, V b, V c, V n]] w fun e w' => e = .returned (.agg #[V 9, V a, V 0, V 0, V 0]) ∧ More w w' := by
 go_enter Tryz.func126, Tryz.ntmps126
 go_wp2
 exact bodyPost_ret (by simp [results, Tryz.results126, go_sem]) rfl ⟨rfl, ((More.refl _).alloc _ _).alloc _ _⟩

theorem Jkd (a b c n : Int) (w : World) :
  Calls Tryz.prog 126 #[.agg #[V 10, V a, V b, V c, V n]] w fun e w' => e = .returned (.agg #[V 10, V a, V b, V 0, V n]) ∧ More w w' := by
 go_enter Tryz.func126, Tryz.ntmps126
 go_wp2
 exact bodyPost_ret (by simp [results, Tryz.results126, go_sem]) rfl ⟨rfl, ((More.refl _).alloc _ _).alloc _ _⟩

theorem Jke (a b c n : Int) (w : World) :
  Calls Tryz.prog 126 #[.agg #[V 11, V a, V b, V c, V n]] w fun e w' => e = .returned (.agg #[V 11, V a, V 0, V 0, V n]) ∧ More w w' := by
 go_enter Tryz.func126, Tryz.ntmps126
 go_wp2
 exact bodyPost_ret (by simp [results, Tryz.results126, go_sem]) rfl ⟨rfl, ((More.refl _).alloc _ _).alloc _ _⟩

theorem Jkf (a b c n : Int) (w : World) :
  Calls Tryz.prog 126 #[.agg #[V 12, V a, V b, V c, V n]] w fun e w' => e = .returned (.agg #[V 12, V 0, V 0, V 0, V 0]) ∧ More w w' := by
 go_enter Tryz.func126, Tryz.ntmps126
 go_wp2
 exact bodyPost_ret (by simp [results, Tryz.results126, go_sem]) rfl ⟨rfl, ((More.refl _).alloc _ _).alloc _ _⟩

theorem Jg6 (op a b c n : Int) (h1 : ¬ op = 1) (h2 : ¬ op = 2) (h3 : ¬ op = 3) (h4 : ¬ op = 4) (h5 : ¬ op = 5) (h6 : ¬ op = 6) (h7 : ¬ op = 7) (h8 : ¬ op = 8) (h9 : ¬ op = 9) (h10 : ¬ op = 10) (h11 : ¬ op = 11) (h12 : ¬ op = 12) (w : World) :
  Calls Tryz.prog 126 #[.agg #[V op, V a, V b, V c, V n]] w fun e w' => e = .returned (.agg #[V op, V a, V b, V c, V 0]) ∧ More w w' := by
 go_enter Tryz.func126, Tryz.ntmps126
 go_wp2
 exact bodyPost_ret (by simp [results, Tryz.results126, go_sem]) rfl ⟨rfl, ((More.refl _).alloc _ _).alloc _ _⟩

theorem Jdb (op a b c n : Int) (w : World) :
  Calls Tryz.prog 126 #[.agg #[V op, V a, V b, V c, V n]] w fun e w' =>
   ∃ a' b' c' n' : Int, e = .returned (.agg #[V op, V a', V b', V c', V n']) ∧ ((a = a' ∧ b = b' ∧ c = c' ∧ n = n') ↔ J1g op a b c n) ∧ More w w' := by
 by_cases h1 : op = 1
 ·subst h1
  refine (Jmr a b c n w).mono fun e w' h => ⟨a, 0, 0, n, h.1, ?_, h.2⟩
  unfold J1g; simp
 by_cases h2 : op = 2
 ·subst h2
  refine (Jms a b c n w).mono fun e w' h => ⟨a, b, 0, 0, h.1, ?_, h.2⟩
  unfold J1g; simp
 by_cases h3 : op = 3
 ·subst h3
  refine (Jmt a b c n w).mono fun e w' h => ⟨a, b, c, n, h.1, ?_, h.2⟩
  unfold J1g; simp
 by_cases h4 : op = 4
 ·subst h4
  refine (Jmu a b c n w).mono fun e w' h => ⟨a, b, c, n, h.1, ?_, h.2⟩
  unfold J1g; simp
 by_cases h5 : op = 5
 ·subst h5
  refine (Jmv a b c n w).mono fun e w' h => ⟨a, 0, c, n, h.1, ?_, h.2⟩
  unfold J1g; simp
 by_cases h6 : op = 6
 ·subst h6
  refine (Jmw a b c n w).mono fun e w' h => ⟨a, 0, c, n, h.1, ?_, h.2⟩
  unfold J1g; simp
 by_cases h7 : op = 7
 ·subst h7
  refine (Jmx a b c n w).mono fun e w' h => ⟨0, 0, 0, n, h.1, ?_, h.2⟩
  unfold J1g; simp
 by_cases h8 : op = 8
 ·subst h8
  refine (Jmy a b c n w).mono fun e w' h => ⟨a, b, c, n, h.1, ?_, h.2⟩
  unfold J1g; simp
 by_cases h9 : op = 9
 ·subst h9
  refine (Jmz a b c n w).mono fun e w' h => ⟨a, 0, 0, 0, h.1, ?_, h.2⟩
  unfold J1g; simp
 by_cases h10 : op = 10
 ·subst h10
  refine (Jkd a b c n w).mono fun e w' h => ⟨a, b, 0, n, h.1, ?_, h.2⟩
  unfold J1g; simp
 by_cases h11 : op = 11
 ·subst h11
  refine (Jke a b c n w).mono fun e w' h => ⟨a, 0, 0, n, h.1, ?_, h.2⟩
  unfold J1g; simp
 by_cases h12 : op = 12
 ·subst h12
  refine (Jkf a b c n w).mono fun e w' h => ⟨0, 0, 0, 0, h.1, ?_, h.2⟩
  unfold J1g; simp
 refine (Jg6 op a b c n h1 h2 h3 h4 h5 h6 h7 h8 h9 h10 h11 h12 w).mono fun e w' h => ⟨a, b, c, 0, h.1, ?_, h.2⟩
 unfold J1g
 rw [if_neg h1, if_neg h2, if_neg h3, if_neg h4, if_neg h5, if_neg h6, if_neg h7, if_neg h8, if_neg h9, if_neg h10, if_neg h11, if_neg h12]
 simp
theorem Jd2 (rl : Nat) (log : Nat → Int) (cl : Nat) (regs op a b c n : Int) : InsOk rl log cl regs ⟨op, a, b, c, n⟩ ↔ J1g op a b c n ∧ J4t rl log cl regs op a b c n := by
 unfold InsOk J1g J4t Btw
 dsimp only
 by_cases h1 : op = 1
 ·rw [if_pos h1, if_pos h1, if_pos h1]; exact ⟨fun h => ⟨⟨h.2.1, h.2.2⟩, h.1⟩, fun h => ⟨h.2, h.1.1, h.1.2⟩⟩
 rw [if_neg h1, if_neg h1, if_neg h1]
 by_cases h2 : op = 2
 ·rw [if_pos h2, if_pos h2, if_pos h2]; exact ⟨fun h => ⟨⟨h.2.2.1, h.2.2.2⟩, h.1, h.2.1⟩, fun h => ⟨h.2.1, h.2.2, h.1.1, h.1.2⟩⟩
 rw [if_neg h2, if_neg h2, if_neg h2]
 by_cases h3 : op = 3
 ·rw [if_pos h3, if_pos h3, if_pos h3]; exact ⟨fun h => ⟨trivial, ⟨h.1, h.2.1⟩, h.2.2⟩, fun h => ⟨h.2.1.1, h.2.1.2, h.2.2⟩⟩
 rw [if_neg h3, if_neg h3, if_neg h3]
 by_cases h4 : op = 4
 ·rw [if_pos h4, if_pos h4, if_pos h4]; exact ⟨fun h => ⟨trivial, ⟨h.1, h.2.1⟩, h.2.2⟩, fun h => ⟨h.2.1.1, h.2.1.2, h.2.2⟩⟩
 rw [if_neg h4, if_neg h4, if_neg h4]
 by_cases h5 : op = 5
 ·rw [if_pos h5, if_pos h5, if_pos h5]; exact ⟨fun h => ⟨h.2.1, h.1, h.2.2.1, h.2.2.2⟩, fun h => ⟨h.2.1, h.1, h.2.2.1, h.2.2.2⟩⟩
 rw [if_neg h5, if_neg h5, if_neg h5]
 by_cases h6 : op = 6
 ·rw [if_pos h6, if_pos h6, if_pos h6]; exact ⟨fun h => ⟨h.2.1, h.1, h.2.2.1, h.2.2.2⟩, fun h => ⟨h.2.1, h.1, h.2.2.1, h.2.2.2⟩⟩
 rw [if_neg h6, if_neg h6, if_neg h6]
 by_cases h7 : op = 7
 ·rw [if_pos h7, if_pos h7, if_pos h7]; exact ⟨fun h => ⟨⟨h.1, h.2.1, h.2.2.1⟩, h.2.2.2⟩, fun h => ⟨h.1.1, h.1.2.1, h.1.2.2, h.2⟩⟩
 rw [if_neg h7, if_neg h7, if_neg h7]
 by_cases h8 : op = 8
 ·rw [if_pos h8, if_pos h8, if_pos h8]; exact ⟨fun h => ⟨trivial, ⟨h.1, h.2.1⟩, h.2.2.1, h.2.2.2⟩, fun h => ⟨h.2.1.1, h.2.1.2, h.2.2.1, h.2.2.2⟩⟩
 rw [if_neg h8, if_neg h8, if_neg h8]
 by_cases h9 : op = 9
 ·rw [if_pos h9, if_pos h9, if_pos h9]; exact ⟨fun h => ⟨⟨h.2.1, h.2.2.1, h.2.2.2⟩, h.1⟩, fun h => ⟨h.2, h.1.1, h.1.2.1, h.1.2.2⟩⟩
 rw [if_neg h9, if_neg h9, if_neg h9]
 by_cases h10 : op = 10
 ·rw [if_pos h10, if_pos h10, if_pos h10]; exact ⟨fun h => ⟨h.2.2, h.1, h.2.1⟩, fun h => ⟨h.2.1, h.2.2, h.1⟩⟩
 rw [if_neg h10, if_neg h10, if_neg h10]
 by_cases h11 : op = 11
 ·rw [if_pos h11, if_pos h11, if_pos h11]; exact ⟨fun h => ⟨⟨h.2.1, h.2.2.1⟩, h.1, h.2.2.2.1, h.2.2.2.2⟩, fun h => ⟨h.2.1, h.1.1, h.1.2, h.2.2.1, h.2.2.2⟩⟩
 rw [if_neg h11, if_neg h11, if_neg h11]
 by_cases h12 : op = 12
 ·rw [if_pos h12, if_pos h12, if_pos h12]; exact ⟨fun h => ⟨h, trivial⟩, fun h => h.1⟩
 rw [if_neg h12, if_neg h12, if_neg h12]
 exact ⟨fun h => ⟨h.2.2.2.2, h.1, h.2.1, h.2.2.1, h.2.2.2.1⟩, fun h => ⟨h.2.1, h.2.2.1, h.2.2.2.1, h.2.2.2.2, h.1⟩⟩

theorem Jjp (ra : Option Addr) (rl rc : Nat) (ca : Option Addr) (cl cc : Nat) (code regs : Int) (a b c n : Int) (rb ro : Nat) (log : Nat → Int) (sec : Nat → Bool) (w : World)
  (hra : 0 < rl → ra = some ⟨rb, ro, none⟩) (hr : RegsAt w rb ro rl log sec) (hok : J0o rl log) :
  Calls Tryz.prog 127 #[.agg #[.slice ra rl rc, .slice ca cl cc, V code, V regs], .agg #[V 5, V a, V b, V c, V n]] w (Says (Reg regs a ∧ Rgn rl c ∧ Wrd log c n) w) := by
 by_cases hA : Reg regs a
 ·by_cases hC : Rgn rl c
  ·have h0 := hC.1
   have h1 := hC.2
   obtain rfl := hra (by omega)
   have hk : c.toNat < rl := by omega
   refine (J5t 5 (by decide) rb ro rl rc ca cl cc code regs a b c n (log c.toNat) (J0g (log c.toNat)) (sec c.toNat) w h0 h1 (hr _ hk).1 (hr _ hk).2
    (fun g cp w h => (J1u _ rl rc ca cl cc code regs g cp a w h).mono fun _ _ s => s.is_yes hA)
    (fun w => (J21 _ rl rc ca cl cc code regs c w).mono fun _ _ s => s.is_yes hC)
    (fun w => J8i _ (hok.2 _ hk).1 (hok.2 _ hk).2 _ w)).mono ?_
   rintro e w' ⟨r, rfl, h, m⟩
   exact ⟨r, rfl, h.trans ⟨fun h => ⟨hA, hC, h⟩, fun h => h.2.2⟩, m⟩
  ·refine (J4a 5 (by decide) ra rl rc ca cl cc code regs a b c n w
    (fun g cp w h => (J1u _ rl rc ca cl cc code regs g cp a w h).mono fun _ _ s => s.is_yes hA)
    (fun w => (J21 _ rl rc ca cl cc code regs c w).mono fun _ _ s => s.is_no hC)).mono ?_
   rintro e w' ⟨rfl, m⟩
   exact Says.no (fun h => hC h.2.1) m
 ·refine (J49 5 (by decide) ra rl rc ca cl cc code regs a b c n w
   (fun g cp w h => (J1u _ rl rc ca cl cc code regs g cp a w h).mono fun _ _ s => s.is_no hA)).mono ?_
  rintro e w' ⟨rfl, m⟩
  exact Says.no (fun h => hA h.1) m

theorem Jjq (ra : Option Addr) (rl rc : Nat) (ca : Option Addr) (cl cc : Nat) (code regs : Int) (a b c n : Int) (rb ro : Nat) (log : Nat → Int) (sec : Nat → Bool) (w : World)
  (hra : 0 < rl → ra = some ⟨rb, ro, none⟩) (hr : RegsAt w rb ro rl log sec) (hok : J0o rl log) :
  Calls Tryz.prog 127 #[.agg #[.slice ra rl rc, .slice ca cl cc, V code, V regs], .agg #[V 6, V a, V b, V c, V n]] w (Says (Reg regs a ∧ Rgn rl c ∧ Wrd log c n) w) := by
 by_cases hA : Reg regs a
 ·by_cases hC : Rgn rl c
  ·have h0 := hC.1
   have h1 := hC.2
   obtain rfl := hra (by omega)
   have hk : c.toNat < rl := by omega
   refine (J5t 6 (by decide) rb ro rl rc ca cl cc code regs a b c n (log c.toNat) (J0g (log c.toNat)) (sec c.toNat) w h0 h1 (hr _ hk).1 (hr _ hk).2
    (fun g cp w h => (J1u _ rl rc ca cl cc code regs g cp a w h).mono fun _ _ s => s.is_yes hA)
    (fun w => (J21 _ rl rc ca cl cc code regs c w).mono fun _ _ s => s.is_yes hC)
    (fun w => J8i _ (hok.2 _ hk).1 (hok.2 _ hk).2 _ w)).mono ?_
   rintro e w' ⟨r, rfl, h, m⟩
   exact ⟨r, rfl, h.trans ⟨fun h => ⟨hA, hC, h⟩, fun h => h.2.2⟩, m⟩
  ·refine (J4a 6 (by decide) ra rl rc ca cl cc code regs a b c n w
    (fun g cp w h => (J1u _ rl rc ca cl cc code regs g cp a w h).mono fun _ _ s => s.is_yes hA)
    (fun w => (J21 _ rl rc ca cl cc code regs c w).mono fun _ _ s => s.is_no hC)).mono ?_
   rintro e w' ⟨rfl, m⟩
   exact Says.no (fun h => hC h.2.1) m
 ·refine (J49 6 (by decide) ra rl rc ca cl cc code regs a b c n w
   (fun g cp w h => (J1u _ rl rc ca cl cc code regs g cp a w h).mono fun _ _ s => s.is_no hA)).mono ?_
  rintro e w' ⟨rfl, m⟩
  exact Says.no (fun h => hA h.1) m

theorem Jb7 (ra : Option Addr) (rl rc : Nat) (ca : Option Addr) (cl cc : Nat) (code regs : Int) (op a b c n : Int) (rb ro : Nat) (log : Nat → Int) (sec : Nat → Bool) (w : World)
  (hra : 0 < rl → ra = some ⟨rb, ro, none⟩) (hr : RegsAt w rb ro rl log sec) (hok : J0o rl log) :
  Calls Tryz.prog 127 #[.agg #[.slice ra rl rc, .slice ca cl cc, V code, V regs], .agg #[V op, V a, V b, V c, V n]] w (Says (J4t rl log cl regs op a b c n) w) := by
 unfold J4t
 by_cases h1 : op = 1
 ·rw [if_pos h1]; subst h1; exact Jjl ra rl rc ca cl cc code regs a b c n w
 rw [if_neg h1]
 by_cases h2 : op = 2
 ·rw [if_pos h2]; subst h2; exact Jjm ra rl rc ca cl cc code regs a b c n w
 rw [if_neg h2]
 by_cases h3 : op = 3
 ·rw [if_pos h3]; subst h3; exact Jjn ra rl rc ca cl cc code regs a b c n w
 rw [if_neg h3]
 by_cases h4 : op = 4
 ·rw [if_pos h4]; subst h4; exact Jjo ra rl rc ca cl cc code regs a b c n w
 rw [if_neg h4]
 by_cases h5 : op = 5
 ·rw [if_pos h5]; subst h5; exact Jjp ra rl rc ca cl cc code regs a b c n rb ro log sec w hra hr hok
 rw [if_neg h5]
 by_cases h6 : op = 6
 ·rw [if_pos h6]; subst h6; exact Jjq ra rl rc ca cl cc code regs a b c n rb ro log sec w hra hr hok
 rw [if_neg h6]
 by_cases h7 : op = 7
 ·rw [if_pos h7]; subst h7; exact Jjr ra rl rc ca cl cc code regs a b c n w
 rw [if_neg h7]
 by_cases h8 : op = 8
 ·rw [if_pos h8]; subst h8; exact Jjs ra rl rc ca cl cc code regs a b c n w
 rw [if_neg h8]
 by_cases h9 : op = 9
 ·rw [if_pos h9]; subst h9; exact Jjt ra rl rc ca cl cc code regs a b c n w
 rw [if_neg h9]
 by_cases h10 : op = 10
 ·rw [if_pos h10]; subst h10; exact Jhc ra rl rc ca cl cc code regs a b c n w
 rw [if_neg h10]
 by_cases h11 : op = 11
 ·rw [if_pos h11]; subst h11; exact Jhd ra rl rc ca cl cc code regs a b c n w
 rw [if_neg h11]
 by_cases h12 : op = 12
 ·rw [if_pos h12]; subst h12; exact Jhe ra rl rc ca cl cc code regs a b c n w
 rw [if_neg h12]
 exact Jcm ra rl rc ca cl cc code regs op a b c n h1 h2 h3 h4 h5 h6 h7 h8 h9 h10 h11 h12 w
set_option maxHeartbeats 1000000 in
theorem Jf9 (ra : Option Addr) (rl rc : Nat) (ca : Option Addr) (cl cc : Nat) (code regs : Int) (rb ro cb co : Nat) (log : Nat → Int) (sec : Nat → Bool) (ins : Nat → Ins) (w : World) (most : Nat) (hcode : code = most) (hmost : most ≤ 8000)
  (hra : 0 < rl → ra = some ⟨rb, ro, none⟩) (hr : RegsAt w rb ro rl log sec) (hok : J0o rl log) (hca : 0 < cl → ca = some ⟨cb, co, none⟩) (hc : CodeAt w cb co cl ins) :
  Calls Tryz.prog 104 #[.agg #[.slice ra rl rc, .slice ca cl cc, V code, V regs]] w (Says (Je6 rl log cl ins most regs) w) := by
 have Hcd : Hid (code = most ∧ most ≤ 8000) := ⟨hcode, hmost⟩
 have Hr : Hid ((0 < rl → ra = some ⟨rb, ro, none⟩) ∧ RegsAt w rb ro rl log sec ∧ J0o rl log) := ⟨hra, hr, hok⟩
 have Hc : Hid ((0 < cl → ca = some ⟨cb, co, none⟩) ∧ CodeAt w cb co cl ins) := ⟨hca, hc⟩
 clear hcode hmost hra hr hok hca hc
 by_cases h1 : (cl : Int) < 1
 ·go_enter Tryz.func104, Tryz.ntmps104
  go_wp2
  go_ret
  exact Says.no (fun h => by have := h.1; omega) ((More.refl _).alloc _ _)
 by_cases h2 : code < (cl : Int)
 ·go_enter Tryz.func104, Tryz.ntmps104
  go_wp2
  go_ret
  exact Says.no (fun h => by have := h.2.1; have := Hcd.out.1; omega) ((More.refl _).alloc _ _)
 have Hl : Hid (1 ≤ cl ∧ cl ≤ most) := ⟨by omega, by have := Hcd.out.1; omega⟩
 go_enter Tryz.func104, Tryz.ntmps104
 go_wp2
 go_loopg [23] cl (fun g i wr => ∃ k : Nat, k + g = cl ∧ i = V k ∧ (∀ j, j < k → InsOk rl log cl regs (ins j)) ∧ More (w.alloc (.cells #[.slice ra rl rc, .slice ca cl cc, V code, V regs] 133)) wr)
 case atStart => exact ⟨0, by omega, rfl, fun j hj => by omega, More.refl _⟩
 case round =>
  obtain ⟨k, hkg, rfl, hin, m⟩ := hrel
  have Hm : Hid (More (w.alloc (.cells #[.slice ra rl rc, .slice ca cl cc, V code, V regs] 133)) wr ∧ ∀ j, j < k → InsOk rl log cl regs (ins j)) := ⟨m, hin⟩
  clear m hin
  cases gk with
  | zero =>
   obtain rfl : k = cl := by omega
   go_wp2
   go_ret
   exact Says.yes ⟨Hl.out.1, Hl.out.2, Hm.out.2⟩ (((More.refl _).alloc _ _).trans Hm.out.1)
  | succ g =>
   have hk : k < cl := by omega
   have hk' : (k : Int) < (cl : Int) := by omega
   obtain rfl := Hc.out.1 (by omega)
   have Hww : Hid (More w wr) := ((More.refl _).alloc _ _).trans Hm.out.1
   have hcell := (Hc.out.2.more Hww.out) k hk
   have Hrr : Hid (RegsAt wr rb ro rl log sec) := Hr.out.2.1.more Hww.out
   cases hI : ins k with
   | mk op a b c n =>
   rw [hI] at hcell
   have HI : Hid (ins k = ⟨op, a, b, c, n⟩) := hI
   clear hI
   obtain ⟨q0, q1, q2, q3, q4⟩ := hcell
   have e0 : wr.cell? ⟨w.heap.size, 0, none⟩ = some (.slice ra rl rc) := Hm.out.1.cell (by go_simp)
   have e1 : wr.cell? ⟨w.heap.size, 1, none⟩ = some (.slice (some ⟨cb, co, none⟩) cl cc) := Hm.out.1.cell (by go_simp)
   have e2 : wr.cell? ⟨w.heap.size, 2, none⟩ = some (V code) := Hm.out.1.cell (by go_simp)
   have e3 : wr.cell? ⟨w.heap.size, 3, none⟩ = some (V regs) := Hm.out.1.cell (by go_simp)
   obtain ⟨W, HW⟩ : ∃ W : World, Hid (W = wr.alloc (.cells #[V op, V a, V b, V c, V n] 41)) := ⟨_, rfl⟩
   have HwW : Hid (More wr W) := HW.out ▸ ((More.refl _).alloc _ _)
   obtain ⟨S, HS⟩ : ∃ S : World → Prop, Hid (∀ w', S w' ↔ More W w') := ⟨fun w' => More W w', fun _ => Iff.rfl⟩
   have k0 : ∀ i : { w' // S w' }, i.val.cell? ⟨w.heap.size, 0, none⟩ = some (.slice ra rl rc) := fun i => ((HS.out _).1 i.property).cell (HwW.out.cell e0)
   have k1 : ∀ i : { w' // S w' }, i.val.cell? ⟨w.heap.size, 1, none⟩ = some (.slice (some ⟨cb, co, none⟩) cl cc) := fun i => ((HS.out _).1 i.property).cell (HwW.out.cell e1)
   have k2 : ∀ i : { w' // S w' }, i.val.cell? ⟨w.heap.size, 2, none⟩ = some (V code) := fun i => ((HS.out _).1 i.property).cell (HwW.out.cell e2)
   have k3 : ∀ i : { w' // S w' }, i.val.cell? ⟨w.heap.size, 3, none⟩ = some (V regs) := fun i => ((HS.out _).1 i.property).cell (HwW.out.cell e3)
   have d0 : ∀ i : { w' // S w' }, i.val.cell? ⟨wr.heap.size, 0, none⟩ = some (V op) := fun i => ((HS.out _).1 i.property).cell (by rw [HW.out]; go_simp)
   have d1 : ∀ i : { w' // S w' }, i.val.cell? ⟨wr.heap.size, 1, none⟩ = some (V a) := fun i => ((HS.out _).1 i.property).cell (by rw [HW.out]; go_simp)
   have d2 : ∀ i : { w' // S w' }, i.val.cell? ⟨wr.heap.size, 2, none⟩ = some (V b) := fun i => ((HS.out _).1 i.property).cell (by rw [HW.out]; go_simp)
   have d3 : ∀ i : { w' // S w' }, i.val.cell? ⟨wr.heap.size, 3, none⟩ = some (V c) := fun i => ((HS.out _).1 i.property).cell (by rw [HW.out]; go_simp)
   have d4 : ∀ i : { w' // S w' }, i.val.cell? ⟨wr.heap.size, 4, none⟩ = some (V n) := fun i => ((HS.out _).1 i.property).cell (by rw [HW.out]; go_simp)
   have hne : Nonempty { w' // S w' } := ⟨⟨W, (HS.out _).2 (More.refl _)⟩⟩
   clear e0 e1 e2 e3
   go_wp2_with (fail)
   clear q0 q1 q2 q3 q4
   refine J03 (S := S) [(0, true), (1, true), (2, false), (3, true), (4, true), (5, true), (6, true), (7, false), (8, true), (9, true)] (by kernel_rfl) (by kernel_rfl) (by kernel_rfl) ((HS.out _).2 (HW.out ▸ (More.refl _).drew)) ?_
   iterate 2 (refine J01 rfl (by kernel_rfl) (fun K hK => ?_); go_simp; refine hK _ _ ?_; clear hK K)
   refine J02 rfl (by kernel_rfl) (fun K hK => ?_); go_simp
   refine (Jdb op a b c n _).mono ?_
   rintro e w1 ⟨a', b', c', n', rfl, hnm, m1⟩
   have Hnm : Hid ((a = a' ∧ b = b' ∧ c = c' ∧ n = n') ↔ J1g op a b c n) := hnm
   have Hm1 : Hid (More W w1) := HW.out ▸ (More.trans (More.refl _).drew m1)
   clear hnm m1
   go_simp
   refine hK _ _ ((HS.out _).2 Hm1.out) ?_; clear hK K
   by_cases heq : a = a' ∧ b = b' ∧ c = c' ∧ n = n'
   ·have HN : Hid (J1g op a b c n) := Hnm.out.1 heq
    obtain ⟨rfl, rfl, rfl, rfl⟩ := heq
    clear Hnm
    refine J01 rfl (by kernel_rfl) (fun K hK => ?_); go_simp; refine hK _ _ ?_; clear hK K
    refine J23 rfl rfl (by kernel_rfl) (fun K hK => ?_); go_simp; refine hK _ _ ?_; clear hK K
    iterate 2 (refine J01 rfl (by kernel_rfl) (fun K hK => ?_); go_simp; refine hK _ _ ?_; clear hK K)
    refine J02 rfl (by kernel_rfl) (fun K hK => ?_); go_simp
    refine (Jb7 ra rl rc _ cl cc code regs op a b c n rb ro log sec _ Hr.out.1 (Hrr.out.more (HwW.out.trans Hm1.out)) Hr.out.2.2).mono ?_
    rintro e w2 ⟨r2, rfl, hr2, m2⟩
    have Hm2 : Hid (More W w2) := Hm1.out.trans m2
    clear m2
    cases r2 with
    | false =>
     have HF : Hid (¬ J4t rl log cl regs op a b c n) := fun h => by simpa using hr2.2 h
     clear hr2
     go_simp
     refine hK _ _ ((HS.out _).2 Hm2.out) ?_; clear hK K
     refine J01 rfl (by kernel_rfl) (fun K hK => ?_); go_simp; refine hK _ _ ?_; clear hK K
     refine J0z rfl rfl (by kernel_rfl) rfl (fun K hK => ?_); go_simp; refine hK _ _ ?_; clear hK K
     refine J07 ?_
     clear k0 k1 k2 k3 d0 d1 d2 d3 d4 hne
     go_wp2
     go_ret
     exact Says.no (fun h => HF.out ((Jd2 rl log cl regs op a b c n).1 (HI.out ▸ h.2.2 k hk)).2) ((Hww.out.trans HwW.out).trans Hm2.out)
    | true =>
     have HF : Hid (J4t rl log cl regs op a b c n) := hr2.1 rfl
     clear hr2
     go_simp
     refine hK _ _ ((HS.out _).2 Hm2.out) ?_; clear hK K
     refine J01 rfl (by kernel_rfl) (fun K hK => ?_); go_simp; refine hK _ _ ?_; clear hK K
     refine J0z rfl rfl (by kernel_rfl) rfl (fun K hK => ?_); go_simp; refine hK _ _ ?_; clear hK K
     refine J07 ?_
     clear k0 k1 k2 k3 d0 d1 d2 d3 d4 hne
     go_wp2
     go_roundg g
     case measure => omega
     case rel =>
      refine ⟨k + 1, by omega, by first | rfl | (simp; unfold wrap64; have := Hl.out.2; have := Hcd.out.2; omega), fun j hj => ?_, (Hm.out.1.trans HwW.out).trans Hm2.out⟩
      by_cases e : j = k
      ·subst e; rw [HI.out]; exact (Jd2 rl log cl regs op a b c n).2 ⟨HN.out, HF.out⟩
      ·exact Hm.out.2 j (by omega)
   ·have HN : Hid (¬ J1g op a b c n) := fun h => heq (Hnm.out.2 h)
    clear Hnm
    have Hq : Hid (¬ (a = a' ∧ b = b' ∧ c = c' ∧ n = n')) := heq
    clear heq
    refine J01 rfl (by kernel_rfl) (fun K hK => ?_)
    go_simp
    refine ⟨.bool true, fun w9 _ => ?_, hK _ _ ?_⟩
    ·repeat' split
     all_goals first | rfl | exact absurd ⟨‹_›, ‹_›, ‹_›, ‹_›⟩ Hq.out
    clear hK K
    refine J23 rfl rfl (by kernel_rfl) (fun K hK => ?_); go_simp; refine hK _ _ ?_; clear hK K
    iterate 4 (refine Jgs rfl ((HS.out _).2 Hm1.out) (by kernel_rfl) (fun K hK => ?_); go_simp; refine hK _ _ ?_; clear hK K)
    refine J1h rfl rfl (by kernel_rfl) rfl (fun K hK => ?_); go_simp; refine hK _ _ ?_; clear hK K
    refine J07 ?_
    clear k0 k1 k2 k3 d0 d1 d2 d3 d4 hne
    go_wp2
    go_ret
    exact Says.no (fun h => HN.out ((Jd2 rl log cl regs op a b c n).1 (HI.out ▸ h.2.2 k hk)).1) ((Hww.out.trans HwW.out).trans Hm1.out)

theorem J5q (ra : Option Addr) (rl rc : Nat) (ca : Option Addr) (cl cc : Nat) (code regs : Int) (rb ro cb co : Nat) (log : Nat → Int) (sec : Nat → Bool) (ins : Nat → Ins) (w : World) (most : Nat) (hcode : code = most) (hmost : most ≤ 8000)
  (hra : 0 < rl → ra = some ⟨rb, ro, none⟩) (hr : RegsAt w rb ro rl log sec) (hca : 0 < cl → ca = some ⟨cb, co, none⟩) (hc : CodeAt w cb co cl ins) :
  Calls Tryz.prog 74 #[.agg #[.slice ra rl rc, .slice ca cl cc, V code, V regs]] w (Says (J0o rl log ∧ Je6 rl log cl ins most regs) w) := by
 have Hcd : Hid (code = most ∧ most ≤ 8000) := ⟨hcode, hmost⟩
 have Hr : Hid ((0 < rl → ra = some ⟨rb, ro, none⟩) ∧ RegsAt w rb ro rl log sec) := ⟨hra, hr⟩
 have Hc : Hid ((0 < cl → ca = some ⟨cb, co, none⟩) ∧ CodeAt w cb co cl ins) := ⟨hca, hc⟩
 clear hcode hmost hra hr hca hc
 go_enter Tryz.func74, Tryz.ntmps74
 go_wp2_with (fail)
 refine (J60 ra rl rc ca cl cc code regs rb ro log sec _ Hr.out.1 (Hr.out.2.more ((More.refl _).alloc _ _))).mono ?_
 rintro e w1 ⟨r, rfl, h, m1⟩
 have e0 : w1.cell? ⟨w.heap.size, 0, none⟩ = some (.slice ra rl rc) := m1.cell (by go_simp)
 have e1 : w1.cell? ⟨w.heap.size, 1, none⟩ = some (.slice ca cl cc) := m1.cell (by go_simp)
 have e2 : w1.cell? ⟨w.heap.size, 2, none⟩ = some (V code) := m1.cell (by go_simp)
 have e3 : w1.cell? ⟨w.heap.size, 3, none⟩ = some (V regs) := m1.cell (by go_simp)
 have Hm : Hid (More w w1) := ((More.refl _).alloc _ _).trans m1
 clear m1
 cases r with
 | false =>
  have HA : Hid (¬ J0o rl log) := fun k => by simpa using h.2 k
  clear h
  go_wp2
  go_ret
  exact Says.no (fun h => HA.out h.1) Hm.out
 | true =>
  have HA : Hid (J0o rl log) := h.1 rfl
  clear h
  go_wp2_with (fail)
  refine (Jf9 ra rl rc ca cl cc code regs rb ro cb co log sec ins _ most Hcd.out.1 Hcd.out.2 Hr.out.1 (Hr.out.2.more Hm.out) HA.out Hc.out.1 (Hc.out.2.more Hm.out)).mono ?_
  rintro e w2 ⟨r2, rfl, h2, m2⟩
  have H2 : Hid ((r2 = true ↔ Je6 rl log cl ins most regs) ∧ More w1 w2) := ⟨h2, m2⟩
  clear h2 m2
  go_wp2
  go_ret
  exact ⟨r2, rfl, H2.out.1.trans ⟨fun h => ⟨HA.out, h⟩, fun h => h.2⟩, Hm.out.trans H2.out.2⟩

theorem Jbk (p : Prg) (l : Loc) (w : World) (h : PIn w p l) :
  Calls Tryz.prog 33 #[.agg #[.slice l.ra p.rl l.rc, .slice l.ca p.cl l.cc]] w (Says (p.Ok 200 8) w) := by
 have H : Hid (PIn w p l) := h
 clear h
 go_enter Tryz.func33, Tryz.ntmps33
 go_wp2_with (fail)
 have m0 : More w (w.alloc (.cells #[.slice l.ra p.rl l.rc, .slice l.ca p.cl l.cc] 28)) := (More.refl _).alloc _ _
 refine (J5q l.ra p.rl l.rc l.ca p.cl l.cc 200 8 l.rb l.ro l.cb l.co p.log p.sec p.ins _ 200 rfl (by omega) H.out.hr (H.out.regs.more m0) H.out.hc (H.out.code.more m0)).mono ?_
 rintro e w1 ⟨r, rfl, h1, m1⟩
 have H1 : Hid ((r = true ↔ p.Ok 200 8) ∧ More w w1) := ⟨h1, m0.trans m1⟩
 clear h1 m1 m0
 go_wp2
 go_ret
 exact ⟨r, rfl, H1.out.1, H1.out.2⟩
end
end Go.Proofs.YtephohhigbfafaaGreatDoor
