/-
  The texts FieldsK, Named, FieldsAll, Code, CvCheck, Shape, InsBox, InsA, InsB, InsC, one behind the other, with what is used of them.
-/
import Derived.Test.YtlbfbjeilfcjeaaJoined2
import Derived.Test.YtlbfbjeilfcjeaaJoined0
import Derived.Test.YtlbfbjeilfcjeaaRows
import Derived.WalkKit
import Derived.Deep.LoopGhost
namespace Go.Proofs.Ytlbfbjeilfcjeaa
section
open Go.RowKit
set_option maxHeartbeats 1000000 in
theorem fields_56_noreg (ov_ : Int) (hov_ : ov_ = 5 ∨ ov_ = 6) (ra : Option Addr) (rl rc : Nat) (ca : Option Addr) (cl cc : Nat) (code regs : Int) (a b c n : Int) (w : World)
  (creg : ∀ (g cp : Nat) (w : World), w.cell? ⟨g, 0, none⟩ = some (.int .i64 a) → Calls Try.prog 87 #[.agg #[.slice ra rl rc, .slice ca cl cc, .int .i64 code, .int .i64 regs], .slice (some ⟨g, 0, none⟩) 1 cp] w fun e w' => e = .returned (.bool false) ∧ More w w') :
  Calls Try.prog 80 #[.agg #[.slice ra rl rc, .slice ca cl cc, .int .i64 code, .int .i64 regs], .agg #[.int .i64 ov_, .int .i64 a, .int .i64 b, .int .i64 c, .int .i64 n]] w fun e w' => e = .returned (.bool false) ∧ More w w' := by
 have Hcreg : Hid (∀ (g cp : Nat) (w : World), w.cell? ⟨g, 0, none⟩ = some (.int .i64 a) → Calls Try.prog 87 #[.agg #[.slice ra rl rc, .slice ca cl cc, .int .i64 code, .int .i64 regs], .slice (some ⟨g, 0, none⟩) 1 cp] w fun e w' => e = .returned (.bool false) ∧ More w w') := creg
 clear creg
 obtain ⟨W, HW⟩ : ∃ W : World, Hid (W = ((w.alloc (.cells #[.slice ra rl rc, .slice ca cl cc, .int .i64 code, .int .i64 regs] 101)).alloc (.cells #[.int .i64 ov_, .int .i64 a, .int .i64 b, .int .i64 c, .int .i64 n] 55))) := ⟨_, rfl⟩
 rcases hov_ with rfl | rfl
 all_goals
  have Hw : Hid (More w W) := HW.out ▸ (((More.refl _).alloc _ _).alloc _ _)
  obtain ⟨S, HS⟩ : ∃ S : World → Prop, Hid (∀ w', S w' ↔ More W w') := ⟨fun w' => More W w', fun _ => Iff.rfl⟩
  have k00 : ∀ i : { w' // S w' }, i.val.cell? ⟨w.heap.size, 0, none⟩ = some (.slice ra rl rc) := fun i => ((HS.out _).1 i.property).cell (by rw [HW.out]; go_simp)
  have k01 : ∀ i : { w' // S w' }, i.val.cell? ⟨w.heap.size, 1, none⟩ = some (.slice ca cl cc) := fun i => ((HS.out _).1 i.property).cell (by rw [HW.out]; go_simp)
  have k02 : ∀ i : { w' // S w' }, i.val.cell? ⟨w.heap.size, 2, none⟩ = some (.int .i64 code) := fun i => ((HS.out _).1 i.property).cell (by rw [HW.out]; go_simp)
  have k03 : ∀ i : { w' // S w' }, i.val.cell? ⟨w.heap.size, 3, none⟩ = some (.int .i64 regs) := fun i => ((HS.out _).1 i.property).cell (by rw [HW.out]; go_simp)
  have k11 : ∀ i : { w' // S w' }, i.val.cell? ⟨w.heap.size + 1, 1, none⟩ = some (.int .i64 a) := fun i => ((HS.out _).1 i.property).cell (by rw [HW.out]; go_simp)
  have k13 : ∀ i : { w' // S w' }, i.val.cell? ⟨w.heap.size + 1, 3, none⟩ = some (.int .i64 c) := fun i => ((HS.out _).1 i.property).cell (by rw [HW.out]; go_simp)
  have k14 : ∀ i : { w' // S w' }, i.val.cell? ⟨w.heap.size + 1, 4, none⟩ = some (.int .i64 n) := fun i => ((HS.out _).1 i.property).cell (by rw [HW.out]; go_simp)
  have hne : Nonempty { w' // S w' } := ⟨⟨W, (HS.out _).2 (More.refl _)⟩⟩
  go_enter Try.func80, Try.ntmps80
  go_wp2_with (fail)
  refine wp_region_ord (S := S) [(0, true), (1, true), (2, true), (3, false), (4, false), (5, true), (6, true), (7, true), (8, true), (9, false), (10, true), (11, true), (12, true), (13, true), (14, true), (15, true), (16, true), (17, true), (18, true), (19, true), (20, true), (21, false), (22, false), (23, true), (24, true)] (by kernel_rfl) (by kernel_rfl) (by kernel_rfl) ((HS.out _).2 (HW.out ▸ (More.refl _).drew)) ?_
  iterate 3 (refine wpOrd_take rfl (by kernel_rfl) (fun K hK => ?_); go_simp; refine hK _ _ ?_; clear hK K)
  refine wpOrd_busy rfl (by kernel_rfl) (fun K hK => ?_); go_simp; refine hK _ _ ((HS.out _).2 (HW.out ▸ (by repeat (first | exact More.refl _ | apply More.drew | apply More.alloc)))) ?_; clear hK K
  refine wpOrd_busy rfl (by kernel_rfl) (fun K hK => ?_); go_simp
  refine (Hcreg.out _ _ _ (by go_simp)).mono ?_
  rintro e w1 ⟨rfl, m1⟩
  go_simp
  have Hm1 : Hid (More W w1) := HW.out ▸ More.trans (by repeat (first | exact More.refl _ | apply More.drew | apply More.alloc)) m1
  clear m1
  refine hK _ _ ((HS.out _).2 Hm1.out) ?_; clear hK K
  refine wpOrd_move rfl rfl (by kernel_rfl) (fun K hK => ?_); go_simp; refine hK _ _ ?_; clear hK K
  iterate 4 (refine wpOrd_skip rfl ((HS.out _).2 Hm1.out) (by kernel_rfl) (by kernel_rfl) ?_)
  refine wpOrd_pickF rfl rfl (by kernel_rfl) rfl (fun K hK => ?_); go_simp; refine hK _ _ ?_; clear hK K
  refine wpOrd_move rfl rfl (by kernel_rfl) (fun K hK => ?_); go_simp; refine hK _ _ ?_; clear hK K
  iterate 11 (refine wpOrd_skip rfl ((HS.out _).2 Hm1.out) (by kernel_rfl) (by kernel_rfl) ?_)
  refine wpOrd_pickF rfl rfl (by kernel_rfl) rfl (fun K hK => ?_); go_simp; refine hK _ _ ?_; clear hK K
  refine wpOrd_assign rfl rfl (by kernel_rfl) (fun K hK => ?_); go_simp; refine hK _ _ ?_; clear hK K
  refine wpOrd_done ?_
  go_wp2
  go_ret
  exact ⟨rfl, Hw.out.trans Hm1.out⟩

set_option maxHeartbeats 1000000 in
theorem fields_56_norgn (ov_ : Int) (hov_ : ov_ = 5 ∨ ov_ = 6) (ra : Option Addr) (rl rc : Nat) (ca : Option Addr) (cl cc : Nat) (code regs : Int) (a b c n : Int) (w : World)
  (creg : ∀ (g cp : Nat) (w : World), w.cell? ⟨g, 0, none⟩ = some (.int .i64 a) → Calls Try.prog 87 #[.agg #[.slice ra rl rc, .slice ca cl cc, .int .i64 code, .int .i64 regs], .slice (some ⟨g, 0, none⟩) 1 cp] w fun e w' => e = .returned (.bool true) ∧ More w w')
  (crgn : ∀ (w : World), Calls Try.prog 88 #[.agg #[.slice ra rl rc, .slice ca cl cc, .int .i64 code, .int .i64 regs], .int .i64 c] w fun e w' => e = .returned (.bool false) ∧ More w w') :
  Calls Try.prog 80 #[.agg #[.slice ra rl rc, .slice ca cl cc, .int .i64 code, .int .i64 regs], .agg #[.int .i64 ov_, .int .i64 a, .int .i64 b, .int .i64 c, .int .i64 n]] w fun e w' => e = .returned (.bool false) ∧ More w w' := by
 have Hcreg : Hid (∀ (g cp : Nat) (w : World), w.cell? ⟨g, 0, none⟩ = some (.int .i64 a) → Calls Try.prog 87 #[.agg #[.slice ra rl rc, .slice ca cl cc, .int .i64 code, .int .i64 regs], .slice (some ⟨g, 0, none⟩) 1 cp] w fun e w' => e = .returned (.bool true) ∧ More w w') := creg
 clear creg
 have Hcrgn : Hid (∀ (w : World), Calls Try.prog 88 #[.agg #[.slice ra rl rc, .slice ca cl cc, .int .i64 code, .int .i64 regs], .int .i64 c] w fun e w' => e = .returned (.bool false) ∧ More w w') := crgn
 clear crgn
 obtain ⟨W, HW⟩ : ∃ W : World, Hid (W = ((w.alloc (.cells #[.slice ra rl rc, .slice ca cl cc, .int .i64 code, .int .i64 regs] 101)).alloc (.cells #[.int .i64 ov_, .int .i64 a, .int .i64 b, .int .i64 c, .int .i64 n] 55))) := ⟨_, rfl⟩
 rcases hov_ with rfl | rfl
 all_goals
  have Hw : Hid (More w W) := HW.out ▸ (((More.refl _).alloc _ _).alloc _ _)
  obtain ⟨S, HS⟩ : ∃ S : World → Prop, Hid (∀ w', S w' ↔ More W w') := ⟨fun w' => More W w', fun _ => Iff.rfl⟩
  have k00 : ∀ i : { w' // S w' }, i.val.cell? ⟨w.heap.size, 0, none⟩ = some (.slice ra rl rc) := fun i => ((HS.out _).1 i.property).cell (by rw [HW.out]; go_simp)
  have k01 : ∀ i : { w' // S w' }, i.val.cell? ⟨w.heap.size, 1, none⟩ = some (.slice ca cl cc) := fun i => ((HS.out _).1 i.property).cell (by rw [HW.out]; go_simp)
  have k02 : ∀ i : { w' // S w' }, i.val.cell? ⟨w.heap.size, 2, none⟩ = some (.int .i64 code) := fun i => ((HS.out _).1 i.property).cell (by rw [HW.out]; go_simp)
  have k03 : ∀ i : { w' // S w' }, i.val.cell? ⟨w.heap.size, 3, none⟩ = some (.int .i64 regs) := fun i => ((HS.out _).1 i.property).cell (by rw [HW.out]; go_simp)
  have k11 : ∀ i : { w' // S w' }, i.val.cell? ⟨w.heap.size + 1, 1, none⟩ = some (.int .i64 a) := fun i => ((HS.out _).1 i.property).cell (by rw [HW.out]; go_simp)
  have k13 : ∀ i : { w' // S w' }, i.val.cell? ⟨w.heap.size + 1, 3, none⟩ = some (.int .i64 c) := fun i => ((HS.out _).1 i.property).cell (by rw [HW.out]; go_simp)
  have k14 : ∀ i : { w' // S w' }, i.val.cell? ⟨w.heap.size + 1, 4, none⟩ = some (.int .i64 n) := fun i => ((HS.out _).1 i.property).cell (by rw [HW.out]; go_simp)
  have hne : Nonempty { w' // S w' } := ⟨⟨W, (HS.out _).2 (More.refl _)⟩⟩
  go_enter Try.func80, Try.ntmps80
  go_wp2_with (fail)
  refine wp_region_ord (S := S) [(0, true), (1, true), (2, true), (3, false), (4, false), (5, true), (6, true), (7, true), (8, true), (9, false), (10, true), (11, true), (12, true), (13, true), (14, true), (15, true), (16, true), (17, true), (18, true), (19, true), (20, true), (21, false), (22, false), (23, true), (24, true)] (by kernel_rfl) (by kernel_rfl) (by kernel_rfl) ((HS.out _).2 (HW.out ▸ (More.refl _).drew)) ?_
  iterate 3 (refine wpOrd_take rfl (by kernel_rfl) (fun K hK => ?_); go_simp; refine hK _ _ ?_; clear hK K)
  refine wpOrd_busy rfl (by kernel_rfl) (fun K hK => ?_); go_simp; refine hK _ _ ((HS.out _).2 (HW.out ▸ (by repeat (first | exact More.refl _ | apply More.drew | apply More.alloc)))) ?_; clear hK K
  refine wpOrd_busy rfl (by kernel_rfl) (fun K hK => ?_); go_simp
  refine (Hcreg.out _ _ _ (by go_simp)).mono ?_
  rintro e w1 ⟨rfl, m1⟩
  go_simp
  have Hm1 : Hid (More W w1) := HW.out ▸ More.trans (by repeat (first | exact More.refl _ | apply More.drew | apply More.alloc)) m1
  clear m1
  refine hK _ _ ((HS.out _).2 Hm1.out) ?_; clear hK K
  refine wpOrd_move rfl rfl (by kernel_rfl) (fun K hK => ?_); go_simp; refine hK _ _ ?_; clear hK K
  iterate 3 (refine wpOrd_take rfl (by kernel_rfl) (fun K hK => ?_); go_simp; refine hK _ _ ?_; clear hK K)
  refine wpOrd_busy rfl (by kernel_rfl) (fun K hK => ?_); go_simp
  refine (Hcrgn.out _).mono ?_
  rintro e w2 ⟨rfl, m2⟩
  go_simp
  have Hm2 : Hid (More W w2) := Hm1.out.trans m2
  clear m2
  refine hK _ _ ((HS.out _).2 Hm2.out) ?_; clear hK K
  refine wpOrd_pickT rfl rfl (by kernel_rfl) rfl (fun K hK => ?_); go_simp; refine hK _ _ ?_; clear hK K
  refine wpOrd_move rfl rfl (by kernel_rfl) (fun K hK => ?_); go_simp; refine hK _ _ ?_; clear hK K
  iterate 11 (refine wpOrd_skip rfl ((HS.out _).2 Hm2.out) (by kernel_rfl) (by kernel_rfl) ?_)
  refine wpOrd_pickF rfl rfl (by kernel_rfl) rfl (fun K hK => ?_); go_simp; refine hK _ _ ?_; clear hK K
  refine wpOrd_assign rfl rfl (by kernel_rfl) (fun K hK => ?_); go_simp; refine hK _ _ ?_; clear hK K
  refine wpOrd_done ?_
  go_wp2
  go_ret
  exact ⟨rfl, Hw.out.trans Hm2.out⟩

set_option maxHeartbeats 1000000 in
theorem fields_56_all (ov_ : Int) (hov_ : ov_ = 5 ∨ ov_ = 6) (rb ro : Nat) (rl rc : Nat) (ca : Option Addr) (cl cc : Nat) (code regs : Int) (a b c n : Int) (l nw : Int) (s : Bool) (w : World) (h0 : 0 ≤ c) (h1 : c < (rl : Int))
  (hr0 : w.cell? ⟨rb, ro + c.toNat * 2, none⟩ = some (.int .i64 l)) (hr1 : w.cell? ⟨rb, ro + c.toNat * 2 + 1, none⟩ = some (.bool s))
  (creg : ∀ (g cp : Nat) (w : World), w.cell? ⟨g, 0, none⟩ = some (.int .i64 a) → Calls Try.prog 87 #[.agg #[.slice (some ⟨rb, ro, none⟩) rl rc, .slice ca cl cc, .int .i64 code, .int .i64 regs], .slice (some ⟨g, 0, none⟩) 1 cp] w fun e w' => e = .returned (.bool true) ∧ More w w')
  (crgn : ∀ (w : World), Calls Try.prog 88 #[.agg #[.slice (some ⟨rb, ro, none⟩) rl rc, .slice ca cl cc, .int .i64 code, .int .i64 regs], .int .i64 c] w fun e w' => e = .returned (.bool true) ∧ More w w')
  (cwrd : ∀ (w : World), Calls Try.prog 90 #[.agg #[.int .i64 l, .bool s]] w fun e w' => e = .returned (.int .i64 nw) ∧ More w w') :
  Calls Try.prog 80 #[.agg #[.slice (some ⟨rb, ro, none⟩) rl rc, .slice ca cl cc, .int .i64 code, .int .i64 regs], .agg #[.int .i64 ov_, .int .i64 a, .int .i64 b, .int .i64 c, .int .i64 n]] w (Says (Blw n nw) w) := by
 have Hcreg : Hid (∀ (g cp : Nat) (w : World), w.cell? ⟨g, 0, none⟩ = some (.int .i64 a) → Calls Try.prog 87 #[.agg #[.slice (some ⟨rb, ro, none⟩) rl rc, .slice ca cl cc, .int .i64 code, .int .i64 regs], .slice (some ⟨g, 0, none⟩) 1 cp] w fun e w' => e = .returned (.bool true) ∧ More w w') := creg
 clear creg
 have Hcrgn : Hid (∀ (w : World), Calls Try.prog 88 #[.agg #[.slice (some ⟨rb, ro, none⟩) rl rc, .slice ca cl cc, .int .i64 code, .int .i64 regs], .int .i64 c] w fun e w' => e = .returned (.bool true) ∧ More w w') := crgn
 clear crgn
 have Hcwrd : Hid (∀ (w : World), Calls Try.prog 90 #[.agg #[.int .i64 l, .bool s]] w fun e w' => e = .returned (.int .i64 nw) ∧ More w w') := cwrd
 clear cwrd
 obtain ⟨W, HW⟩ : ∃ W : World, Hid (W = ((w.alloc (.cells #[.slice (some ⟨rb, ro, none⟩) rl rc, .slice ca cl cc, .int .i64 code, .int .i64 regs] 101)).alloc (.cells #[.int .i64 ov_, .int .i64 a, .int .i64 b, .int .i64 c, .int .i64 n] 55))) := ⟨_, rfl⟩
 rcases hov_ with rfl | rfl
 all_goals
  have Hw : Hid (More w W) := HW.out ▸ (((More.refl _).alloc _ _).alloc _ _)
  obtain ⟨S, HS⟩ : ∃ S : World → Prop, Hid (∀ w', S w' ↔ More W w') := ⟨fun w' => More W w', fun _ => Iff.rfl⟩
  have k00 : ∀ i : { w' // S w' }, i.val.cell? ⟨w.heap.size, 0, none⟩ = some (.slice (some ⟨rb, ro, none⟩) rl rc) := fun i => ((HS.out _).1 i.property).cell (by rw [HW.out]; go_simp)
  have k01 : ∀ i : { w' // S w' }, i.val.cell? ⟨w.heap.size, 1, none⟩ = some (.slice ca cl cc) := fun i => ((HS.out _).1 i.property).cell (by rw [HW.out]; go_simp)
  have k02 : ∀ i : { w' // S w' }, i.val.cell? ⟨w.heap.size, 2, none⟩ = some (.int .i64 code) := fun i => ((HS.out _).1 i.property).cell (by rw [HW.out]; go_simp)
  have k03 : ∀ i : { w' // S w' }, i.val.cell? ⟨w.heap.size, 3, none⟩ = some (.int .i64 regs) := fun i => ((HS.out _).1 i.property).cell (by rw [HW.out]; go_simp)
  have k11 : ∀ i : { w' // S w' }, i.val.cell? ⟨w.heap.size + 1, 1, none⟩ = some (.int .i64 a) := fun i => ((HS.out _).1 i.property).cell (by rw [HW.out]; go_simp)
  have k13 : ∀ i : { w' // S w' }, i.val.cell? ⟨w.heap.size + 1, 3, none⟩ = some (.int .i64 c) := fun i => ((HS.out _).1 i.property).cell (by rw [HW.out]; go_simp)
  have k14 : ∀ i : { w' // S w' }, i.val.cell? ⟨w.heap.size + 1, 4, none⟩ = some (.int .i64 n) := fun i => ((HS.out _).1 i.property).cell (by rw [HW.out]; go_simp)
  have kr0 : ∀ i : { w' // S w' }, i.val.cell? ⟨rb, ro + c.toNat * 2, none⟩ = some (.int .i64 l) := fun i => ((HS.out _).1 i.property).cell (Hw.out.cell hr0)
  have kr1 : ∀ i : { w' // S w' }, i.val.cell? ⟨rb, ro + c.toNat * 2 + 1, none⟩ = some (.bool s) := fun i => ((HS.out _).1 i.property).cell (Hw.out.cell hr1)
  have hne : Nonempty { w' // S w' } := ⟨⟨W, (HS.out _).2 (More.refl _)⟩⟩
  clear hr0 hr1
  go_enter Try.func80, Try.ntmps80
  go_wp2_with (fail)
  refine wp_region_ord (S := S) [(0, true), (1, true), (2, true), (3, false), (4, false), (5, true), (6, true), (7, true), (8, true), (9, false), (10, true), (11, true), (12, true), (13, true), (14, true), (15, true), (16, true), (17, true), (18, true), (19, true), (20, true), (21, false), (22, false), (23, true), (24, true)] (by kernel_rfl) (by kernel_rfl) (by kernel_rfl) ((HS.out _).2 (HW.out ▸ (More.refl _).drew)) ?_
  iterate 3 (refine wpOrd_take rfl (by kernel_rfl) (fun K hK => ?_); go_simp; refine hK _ _ ?_; clear hK K)
  refine wpOrd_busy rfl (by kernel_rfl) (fun K hK => ?_); go_simp; refine hK _ _ ((HS.out _).2 (HW.out ▸ (by repeat (first | exact More.refl _ | apply More.drew | apply More.alloc)))) ?_; clear hK K
  refine wpOrd_busy rfl (by kernel_rfl) (fun K hK => ?_); go_simp
  refine (Hcreg.out _ _ _ (by go_simp)).mono ?_
  rintro e w1 ⟨rfl, m1⟩
  go_simp
  have Hm1 : Hid (More W w1) := HW.out ▸ More.trans (by repeat (first | exact More.refl _ | apply More.drew | apply More.alloc)) m1
  clear m1
  refine hK _ _ ((HS.out _).2 Hm1.out) ?_; clear hK K
  refine wpOrd_move rfl rfl (by kernel_rfl) (fun K hK => ?_); go_simp; refine hK _ _ ?_; clear hK K
  iterate 3 (refine wpOrd_take rfl (by kernel_rfl) (fun K hK => ?_); go_simp; refine hK _ _ ?_; clear hK K)
  refine wpOrd_busy rfl (by kernel_rfl) (fun K hK => ?_); go_simp
  refine (Hcrgn.out _).mono ?_
  rintro e w2 ⟨rfl, m2⟩
  go_simp
  have Hm2 : Hid (More W w2) := Hm1.out.trans m2
  clear m2
  refine hK _ _ ((HS.out _).2 Hm2.out) ?_; clear hK K
  refine wpOrd_pickT rfl rfl (by kernel_rfl) rfl (fun K hK => ?_); go_simp; refine hK _ _ ?_; clear hK K
  refine wpOrd_move rfl rfl (by kernel_rfl) (fun K hK => ?_); go_simp; refine hK _ _ ?_; clear hK K
  iterate 9 (refine wpOrd_take rfl (by kernel_rfl) (fun K hK => ?_); go_simp; refine hK _ _ ?_; clear hK K)
  refine wpOrd_busy rfl (by kernel_rfl) (fun K hK => ?_); go_simp
  refine (Hcwrd.out _).mono ?_
  rintro e w3 ⟨rfl, m3⟩
  go_simp
  have Hm3 : Hid (More W w3) := Hm2.out.trans m3
  clear m3
  refine hK _ _ ((HS.out _).2 Hm3.out) ?_; clear hK K
  refine wpOrd_busy rfl (by kernel_rfl) (fun K hK => ?_); go_simp
  refine (lay_below_calls n nw _).mono ?_
  rintro e w4 ⟨r, rfl, hr, m4⟩
  have Hr : Hid (r = true ↔ Blw n nw) := hr
  clear hr
  go_simp
  have Hm4 : Hid (More W w4) := Hm3.out.trans m4
  clear m4
  refine hK _ _ ((HS.out _).2 Hm4.out) ?_; clear hK K
  refine wpOrd_pickT rfl rfl (by kernel_rfl) rfl (fun K hK => ?_); go_simp; refine hK _ _ ?_; clear hK K
  refine wpOrd_assign rfl rfl (by kernel_rfl) (fun K hK => ?_); go_simp; refine hK _ _ ?_; clear hK K
  refine wpOrd_done ?_
  go_wp2
  go_ret
  exact ⟨r, rfl, Hr.out, Hw.out.trans Hm4.out⟩
/-- The fields that are not named are 0. -/
def NamedOk (op a b c n : Int) : Prop :=
 if op = 1 then b = 0 ∧ c = 0
 else if op = 2 then c = 0 ∧ n = 0
 else if op = 3 then True
 else if op = 4 then True
 else if op = 5 then b = 0
 else if op = 6 then b = 0
 else if op = 7 then a = 0 ∧ b = 0 ∧ c = 0
 else if op = 8 then True
 else if op = 9 then b = 0 ∧ c = 0 ∧ n = 0
 else if op = 10 then c = 0
 else if op = 11 then b = 0 ∧ c = 0
 else if op = 12 then a = 0 ∧ b = 0 ∧ c = 0 ∧ n = 0
 else n = 0

theorem named_1 (a b c n : Int) (w : World) :
  Calls Try.prog 79 #[.agg #[.int .i64 1, .int .i64 a, .int .i64 b, .int .i64 c, .int .i64 n]] w fun e w' => e = .returned (.agg #[.int .i64 1, .int .i64 a, .int .i64 0, .int .i64 0, .int .i64 n]) ∧ More w w' := by
 go_enter Try.func79, Try.ntmps79
 go_wp2
 exact bodyPost_ret (by simp [results, Try.results79, go_sem]) rfl ⟨rfl, ((More.refl _).alloc _ _).alloc _ _⟩

theorem named_2 (a b c n : Int) (w : World) :
  Calls Try.prog 79 #[.agg #[.int .i64 2, .int .i64 a, .int .i64 b, .int .i64 c, .int .i64 n]] w fun e w' => e = .returned (.agg #[.int .i64 2, .int .i64 a, .int .i64 b, .int .i64 0, .int .i64 0]) ∧ More w w' := by
 go_enter Try.func79, Try.ntmps79
 go_wp2
 exact bodyPost_ret (by simp [results, Try.results79, go_sem]) rfl ⟨rfl, ((More.refl _).alloc _ _).alloc _ _⟩

theorem named_3 (a b c n : Int) (w : World) :
  Calls Try.prog 79 #[.agg #[.int .i64 3, .int .i64 a, .int .i64 b, .int .i64 c, .int .i64 n]] w fun e w' => e = .returned (.agg #[.int .i64 3, .int .i64 a, .int .i64 b, .int .i64 c, .int .i64 n]) ∧ More w w' := by
 go_enter Try.func79, Try.ntmps79
 go_wp2
 exact bodyPost_ret (by simp [results, Try.results79, go_sem]) rfl ⟨rfl, ((More.refl _).alloc _ _).alloc _ _⟩

theorem named_4 (a b c n : Int) (w : World) :
  Calls Try.prog 79 #[.agg #[.int .i64 4, .int .i64 a, .int .i64 b, .int .i64 c, .int .i64 n]] w fun e w' => e = .returned (.agg #[.int .i64 4, .int .i64 a, .int .i64 b, .int .i64 c, .int .i64 n]) ∧ More w w' := by
 go_enter Try.func79, Try.ntmps79
 go_wp2
 exact bodyPost_ret (by simp [results, Try.results79, go_sem]) rfl ⟨rfl, ((More.refl _).alloc _ _).alloc _ _⟩

theorem named_5 (a b c n : Int) (w : World) :
  Calls Try.prog 79 #[.agg #[.int .i64 5, .int .i64 a, .int .i64 b, .int .i64 c, .int .i64 n]] w fun e w' => e = .returned (.agg #[.int .i64 5, .int .i64 a, .int .i64 0, .int .i64 c, .int .i64 n]) ∧ More w w' := by
 go_enter Try.func79, Try.ntmps79
 go_wp2
 exact bodyPost_ret (by simp [results, Try.results79, go_sem]) rfl ⟨rfl, ((More.refl _).alloc _ _).alloc _ _⟩

theorem named_6 (a b c n : Int) (w : World) :
  Calls Try.prog 79 #[.agg #[.int .i64 6, .int .i64 a, .int .i64 b, .int .i64 c, .int .i64 n]] w fun e w' => e = .returned (.agg #[.int .i64 6, .int .i64 a, .int .i64 0, .int .i64 c, .int .i64 n]) ∧ More w w' := by
 go_enter Try.func79, Try.ntmps79
 go_wp2
 exact bodyPost_ret (by simp [results, Try.results79, go_sem]) rfl ⟨rfl, ((More.refl _).alloc _ _).alloc _ _⟩

theorem named_7 (a b c n : Int) (w : World) :
  Calls Try.prog 79 #[.agg #[.int .i64 7, .int .i64 a, .int .i64 b, .int .i64 c, .int .i64 n]] w fun e w' => e = .returned (.agg #[.int .i64 7, .int .i64 0, .int .i64 0, .int .i64 0, .int .i64 n]) ∧ More w w' := by
 go_enter Try.func79, Try.ntmps79
 go_wp2
 exact bodyPost_ret (by simp [results, Try.results79, go_sem]) rfl ⟨rfl, ((More.refl _).alloc _ _).alloc _ _⟩

theorem named_8 (a b c n : Int) (w : World) :
  Calls Try.prog 79 #[.agg #[.int .i64 8, .int .i64 a, .int .i64 b, .int .i64 c, .int .i64 n]] w fun e w' => e = .returned (.agg #[.int .i64 8, .int .i64 a, .int .i64 b, .int .i64 c, .int .i64 n]) ∧ More w w' := by
 go_enter Try.func79, Try.ntmps79
 go_wp2
 exact bodyPost_ret (by simp [results, Try.results79, go_sem]) rfl ⟨rfl, ((More.refl _).alloc _ _).alloc _ _⟩

theorem named_9 (a b c n : Int) (w : World) :
  Calls Try.prog 79 #[.agg #[.int .i64 9, .int .i64 a, .int .i64 b, .int .i64 c, .int .i64 n]] w fun e w' => e = .returned (.agg #[.int .i64 9, .int .i64 a, .int .i64 0, .int .i64 0, .int .i64 0]) ∧ More w w' := by
 go_enter Try.func79, Try.ntmps79
 go_wp2
 exact bodyPost_ret (by simp [results, Try.results79, go_sem]) rfl ⟨rfl, ((More.refl _).alloc _ _).alloc _ _⟩

theorem named_10 (a b c n : Int) (w : World) :
  Calls Try.prog 79 #[.agg #[.int .i64 10, .int .i64 a, .int .i64 b, .int .i64 c, .int .i64 n]] w fun e w' => e = .returned (.agg #[.int .i64 10, .int .i64 a, .int .i64 b, .int .i64 0, .int .i64 n]) ∧ More w w' := by
 go_enter Try.func79, Try.ntmps79
 go_wp2
 exact bodyPost_ret (by simp [results, Try.results79, go_sem]) rfl ⟨rfl, ((More.refl _).alloc _ _).alloc _ _⟩

theorem named_11 (a b c n : Int) (w : World) :
  Calls Try.prog 79 #[.agg #[.int .i64 11, .int .i64 a, .int .i64 b, .int .i64 c, .int .i64 n]] w fun e w' => e = .returned (.agg #[.int .i64 11, .int .i64 a, .int .i64 0, .int .i64 0, .int .i64 n]) ∧ More w w' := by
 go_enter Try.func79, Try.ntmps79
 go_wp2
 exact bodyPost_ret (by simp [results, Try.results79, go_sem]) rfl ⟨rfl, ((More.refl _).alloc _ _).alloc _ _⟩

theorem named_12 (a b c n : Int) (w : World) :
  Calls Try.prog 79 #[.agg #[.int .i64 12, .int .i64 a, .int .i64 b, .int .i64 c, .int .i64 n]] w fun e w' => e = .returned (.agg #[.int .i64 12, .int .i64 0, .int .i64 0, .int .i64 0, .int .i64 0]) ∧ More w w' := by
 go_enter Try.func79, Try.ntmps79
 go_wp2
 exact bodyPost_ret (by simp [results, Try.results79, go_sem]) rfl ⟨rfl, ((More.refl _).alloc _ _).alloc _ _⟩

theorem named_else (op a b c n : Int) (h1 : ¬ op = 1) (h2 : ¬ op = 2) (h3 : ¬ op = 3) (h4 : ¬ op = 4) (h5 : ¬ op = 5) (h6 : ¬ op = 6) (h7 : ¬ op = 7) (h8 : ¬ op = 8) (h9 : ¬ op = 9) (h10 : ¬ op = 10) (h11 : ¬ op = 11) (h12 : ¬ op = 12) (w : World) :
  Calls Try.prog 79 #[.agg #[.int .i64 op, .int .i64 a, .int .i64 b, .int .i64 c, .int .i64 n]] w fun e w' => e = .returned (.agg #[.int .i64 op, .int .i64 a, .int .i64 b, .int .i64 c, .int .i64 0]) ∧ More w w' := by
 go_enter Try.func79, Try.ntmps79
 go_wp2
 exact bodyPost_ret (by simp [results, Try.results79, go_sem]) rfl ⟨rfl, ((More.refl _).alloc _ _).alloc _ _⟩

/-- The instruction with its named fields alone is the same one just if the others are 0. -/
theorem named_calls (op a b c n : Int) (w : World) :
  Calls Try.prog 79 #[.agg #[.int .i64 op, .int .i64 a, .int .i64 b, .int .i64 c, .int .i64 n]] w fun e w' =>
   ∃ a' b' c' n' : Int, e = .returned (.agg #[.int .i64 op, .int .i64 a', .int .i64 b', .int .i64 c', .int .i64 n']) ∧ ((a = a' ∧ b = b' ∧ c = c' ∧ n = n') ↔ NamedOk op a b c n) ∧ More w w' := by
 by_cases h1 : op = 1
 ·subst h1
  refine (named_1 a b c n w).mono fun e w' h => ⟨a, 0, 0, n, h.1, ?_, h.2⟩
  unfold NamedOk; simp
 by_cases h2 : op = 2
 ·subst h2
  refine (named_2 a b c n w).mono fun e w' h => ⟨a, b, 0, 0, h.1, ?_, h.2⟩
  unfold NamedOk; simp
 by_cases h3 : op = 3
 ·subst h3
  refine (named_3 a b c n w).mono fun e w' h => ⟨a, b, c, n, h.1, ?_, h.2⟩
  unfold NamedOk; simp
 by_cases h4 : op = 4
 ·subst h4
  refine (named_4 a b c n w).mono fun e w' h => ⟨a, b, c, n, h.1, ?_, h.2⟩
  unfold NamedOk; simp
 by_cases h5 : op = 5
 ·subst h5
  refine (named_5 a b c n w).mono fun e w' h => ⟨a, 0, c, n, h.1, ?_, h.2⟩
  unfold NamedOk; simp
 by_cases h6 : op = 6
 ·subst h6
  refine (named_6 a b c n w).mono fun e w' h => ⟨a, 0, c, n, h.1, ?_, h.2⟩
  unfold NamedOk; simp
 by_cases h7 : op = 7
 ·subst h7
  refine (named_7 a b c n w).mono fun e w' h => ⟨0, 0, 0, n, h.1, ?_, h.2⟩
  unfold NamedOk; simp
 by_cases h8 : op = 8
 ·subst h8
  refine (named_8 a b c n w).mono fun e w' h => ⟨a, b, c, n, h.1, ?_, h.2⟩
  unfold NamedOk; simp
 by_cases h9 : op = 9
 ·subst h9
  refine (named_9 a b c n w).mono fun e w' h => ⟨a, 0, 0, 0, h.1, ?_, h.2⟩
  unfold NamedOk; simp
 by_cases h10 : op = 10
 ·subst h10
  refine (named_10 a b c n w).mono fun e w' h => ⟨a, b, 0, n, h.1, ?_, h.2⟩
  unfold NamedOk; simp
 by_cases h11 : op = 11
 ·subst h11
  refine (named_11 a b c n w).mono fun e w' h => ⟨a, 0, 0, n, h.1, ?_, h.2⟩
  unfold NamedOk; simp
 by_cases h12 : op = 12
 ·subst h12
  refine (named_12 a b c n w).mono fun e w' h => ⟨0, 0, 0, 0, h.1, ?_, h.2⟩
  unfold NamedOk; simp
 refine (named_else op a b c n h1 h2 h3 h4 h5 h6 h7 h8 h9 h10 h11 h12 w).mono fun e w' h => ⟨a, b, c, 0, h.1, ?_, h.2⟩
 unfold NamedOk
 rw [if_neg h1, if_neg h2, if_neg h3, if_neg h4, if_neg h5, if_neg h6, if_neg h7, if_neg h8, if_neg h9, if_neg h10, if_neg h11, if_neg h12]
 simp
theorem ins_iff (rl : Nat) (log : Nat → Int) (cl : Nat) (regs op a b c n : Int) : InsOk rl log cl regs ⟨op, a, b, c, n⟩ ↔ NamedOk op a b c n ∧ FieldsOk rl log cl regs op a b c n := by
 unfold InsOk NamedOk FieldsOk Btw
 dsimp only
 by_cases h1 : op = 1
 ·rw [if_pos h1, if_pos h1, if_pos h1]; exact ⟨fun h => ⟨⟨h.2.1, h.2.2⟩, h.1⟩, fun h => ⟨h.2, h.1.1, h.1.2⟩⟩
 rw [if_neg h1, if_neg h1, if_neg h1]
 by_cases h2 : op = 2
 ·rw [if_pos h2, if_pos h2, if_pos h2]; exact ⟨fun h => ⟨⟨h.2.2.1, h.2.2.2⟩, h.1, h.2.1⟩, fun h => ⟨h.2.1, h.2.2, h.1.1, h.1.2⟩⟩
 rw [if_neg h2, if_neg h2, if_neg h2]
 by_cases h3 : op = 3
 ·rw [if_pos h3, if_pos h3, if_pos h3]; exact ⟨fun h => ⟨trivial, ⟨h.1, h.2.1⟩, h.2.2⟩, fun h => ⟨h.2.1.1, h.2.1.2, h.2.2⟩⟩
 rw [if_neg h3, if_neg h3, if_neg h3]
 by_cases h4 : op = 4
 ·rw [if_pos h4, if_pos h4, if_pos h4]; exact ⟨fun h => ⟨trivial, ⟨h.1, h.2.1⟩, h.2.2⟩, fun h => ⟨h.2.1.1, h.2.1.2, h.2.2⟩⟩
 rw [if_neg h4, if_neg h4, if_neg h4]
 by_cases h5 : op = 5
 ·rw [if_pos h5, if_pos h5, if_pos h5]; exact ⟨fun h => ⟨h.2.1, h.1, h.2.2.1, h.2.2.2⟩, fun h => ⟨h.2.1, h.1, h.2.2.1, h.2.2.2⟩⟩
 rw [if_neg h5, if_neg h5, if_neg h5]
 by_cases h6 : op = 6
 ·rw [if_pos h6, if_pos h6, if_pos h6]; exact ⟨fun h => ⟨h.2.1, h.1, h.2.2.1, h.2.2.2⟩, fun h => ⟨h.2.1, h.1, h.2.2.1, h.2.2.2⟩⟩
 rw [if_neg h6, if_neg h6, if_neg h6]
 by_cases h7 : op = 7
 ·rw [if_pos h7, if_pos h7, if_pos h7]; exact ⟨fun h => ⟨⟨h.1, h.2.1, h.2.2.1⟩, h.2.2.2⟩, fun h => ⟨h.1.1, h.1.2.1, h.1.2.2, h.2⟩⟩
 rw [if_neg h7, if_neg h7, if_neg h7]
 by_cases h8 : op = 8
 ·rw [if_pos h8, if_pos h8, if_pos h8]; exact ⟨fun h => ⟨trivial, ⟨h.1, h.2.1⟩, h.2.2.1, h.2.2.2⟩, fun h => ⟨h.2.1.1, h.2.1.2, h.2.2.1, h.2.2.2⟩⟩
 rw [if_neg h8, if_neg h8, if_neg h8]
 by_cases h9 : op = 9
 ·rw [if_pos h9, if_pos h9, if_pos h9]; exact ⟨fun h => ⟨⟨h.2.1, h.2.2.1, h.2.2.2⟩, h.1⟩, fun h => ⟨h.2, h.1.1, h.1.2.1, h.1.2.2⟩⟩
 rw [if_neg h9, if_neg h9, if_neg h9]
 by_cases h10 : op = 10
 ·rw [if_pos h10, if_pos h10, if_pos h10]; exact ⟨fun h => ⟨h.2.2, h.1, h.2.1⟩, fun h => ⟨h.2.1, h.2.2, h.1⟩⟩
 rw [if_neg h10, if_neg h10, if_neg h10]
 by_cases h11 : op = 11
 ·rw [if_pos h11, if_pos h11, if_pos h11]; exact ⟨fun h => ⟨⟨h.2.1, h.2.2.1⟩, h.1, h.2.2.2.1, h.2.2.2.2⟩, fun h => ⟨h.2.1, h.1.1, h.1.2, h.2.2.1, h.2.2.2⟩⟩
 rw [if_neg h11, if_neg h11, if_neg h11]
 by_cases h12 : op = 12
 ·rw [if_pos h12, if_pos h12, if_pos h12]; exact ⟨fun h => ⟨h, trivial⟩, fun h => h.1⟩
 rw [if_neg h12, if_neg h12, if_neg h12]
 exact ⟨fun h => ⟨h.2.2.2.2, h.1, h.2.1, h.2.2.1, h.2.2.2.1⟩, fun h => ⟨h.2.1, h.2.2.1, h.2.2.2.1, h.2.2.2.2, h.1⟩⟩

theorem fields_5 (ra : Option Addr) (rl rc : Nat) (ca : Option Addr) (cl cc : Nat) (code regs : Int) (a b c n : Int) (rb ro : Nat) (log : Nat → Int) (sec : Nat → Bool) (w : World)
  (hra : 0 < rl → ra = some ⟨rb, ro, none⟩) (hr : RegsAt w rb ro rl log sec) (hok : RegionsOk rl log) :
  Calls Try.prog 80 #[.agg #[.slice ra rl rc, .slice ca cl cc, .int .i64 code, .int .i64 regs], .agg #[.int .i64 5, .int .i64 a, .int .i64 b, .int .i64 c, .int .i64 n]] w (Says (Reg regs a ∧ Rgn rl c ∧ Wrd log c n) w) := by
 by_cases hA : Reg regs a
 ·by_cases hC : Rgn rl c
  ·have h0 := hC.1
   have h1 := hC.2
   obtain rfl := hra (by omega)
   have hk : c.toNat < rl := by omega
   refine (fields_56_all 5 (by decide) rb ro rl rc ca cl cc code regs a b c n (log c.toNat) (wordsI (log c.toNat)) (sec c.toNat) w h0 h1 (hr _ hk).1 (hr _ hk).2
    (fun g cp w h => (registers1 _ rl rc ca cl cc code regs g cp a w h).mono fun _ _ s => s.is_yes hA)
    (fun w => (region_calls _ rl rc ca cl cc code regs c w).mono fun _ _ s => s.is_yes hC)
    (fun w => words_calls _ (hok.2 _ hk).1 (hok.2 _ hk).2 _ w)).mono ?_
   rintro e w' ⟨r, rfl, h, m⟩
   exact ⟨r, rfl, h.trans ⟨fun h => ⟨hA, hC, h⟩, fun h => h.2.2⟩, m⟩
  ·refine (fields_56_norgn 5 (by decide) ra rl rc ca cl cc code regs a b c n w
    (fun g cp w h => (registers1 _ rl rc ca cl cc code regs g cp a w h).mono fun _ _ s => s.is_yes hA)
    (fun w => (region_calls _ rl rc ca cl cc code regs c w).mono fun _ _ s => s.is_no hC)).mono ?_
   rintro e w' ⟨rfl, m⟩
   exact Says.no (fun h => hC h.2.1) m
 ·refine (fields_56_noreg 5 (by decide) ra rl rc ca cl cc code regs a b c n w
   (fun g cp w h => (registers1 _ rl rc ca cl cc code regs g cp a w h).mono fun _ _ s => s.is_no hA)).mono ?_
  rintro e w' ⟨rfl, m⟩
  exact Says.no (fun h => hA h.1) m

theorem fields_6 (ra : Option Addr) (rl rc : Nat) (ca : Option Addr) (cl cc : Nat) (code regs : Int) (a b c n : Int) (rb ro : Nat) (log : Nat → Int) (sec : Nat → Bool) (w : World)
  (hra : 0 < rl → ra = some ⟨rb, ro, none⟩) (hr : RegsAt w rb ro rl log sec) (hok : RegionsOk rl log) :
  Calls Try.prog 80 #[.agg #[.slice ra rl rc, .slice ca cl cc, .int .i64 code, .int .i64 regs], .agg #[.int .i64 6, .int .i64 a, .int .i64 b, .int .i64 c, .int .i64 n]] w (Says (Reg regs a ∧ Rgn rl c ∧ Wrd log c n) w) := by
 by_cases hA : Reg regs a
 ·by_cases hC : Rgn rl c
  ·have h0 := hC.1
   have h1 := hC.2
   obtain rfl := hra (by omega)
   have hk : c.toNat < rl := by omega
   refine (fields_56_all 6 (by decide) rb ro rl rc ca cl cc code regs a b c n (log c.toNat) (wordsI (log c.toNat)) (sec c.toNat) w h0 h1 (hr _ hk).1 (hr _ hk).2
    (fun g cp w h => (registers1 _ rl rc ca cl cc code regs g cp a w h).mono fun _ _ s => s.is_yes hA)
    (fun w => (region_calls _ rl rc ca cl cc code regs c w).mono fun _ _ s => s.is_yes hC)
    (fun w => words_calls _ (hok.2 _ hk).1 (hok.2 _ hk).2 _ w)).mono ?_
   rintro e w' ⟨r, rfl, h, m⟩
   exact ⟨r, rfl, h.trans ⟨fun h => ⟨hA, hC, h⟩, fun h => h.2.2⟩, m⟩
  ·refine (fields_56_norgn 6 (by decide) ra rl rc ca cl cc code regs a b c n w
    (fun g cp w h => (registers1 _ rl rc ca cl cc code regs g cp a w h).mono fun _ _ s => s.is_yes hA)
    (fun w => (region_calls _ rl rc ca cl cc code regs c w).mono fun _ _ s => s.is_no hC)).mono ?_
   rintro e w' ⟨rfl, m⟩
   exact Says.no (fun h => hC h.2.1) m
 ·refine (fields_56_noreg 6 (by decide) ra rl rc ca cl cc code regs a b c n w
   (fun g cp w h => (registers1 _ rl rc ca cl cc code regs g cp a w h).mono fun _ _ s => s.is_no hA)).mono ?_
  rintro e w' ⟨rfl, m⟩
  exact Says.no (fun h => hA h.1) m

theorem fields_calls (ra : Option Addr) (rl rc : Nat) (ca : Option Addr) (cl cc : Nat) (code regs : Int) (op a b c n : Int) (rb ro : Nat) (log : Nat → Int) (sec : Nat → Bool) (w : World)
  (hra : 0 < rl → ra = some ⟨rb, ro, none⟩) (hr : RegsAt w rb ro rl log sec) (hok : RegionsOk rl log) :
  Calls Try.prog 80 #[.agg #[.slice ra rl rc, .slice ca cl cc, .int .i64 code, .int .i64 regs], .agg #[.int .i64 op, .int .i64 a, .int .i64 b, .int .i64 c, .int .i64 n]] w (Says (FieldsOk rl log cl regs op a b c n) w) := by
 unfold FieldsOk
 by_cases h1 : op = 1
 ·rw [if_pos h1]; subst h1; exact fields_1 ra rl rc ca cl cc code regs a b c n w
 rw [if_neg h1]
 by_cases h2 : op = 2
 ·rw [if_pos h2]; subst h2; exact fields_2 ra rl rc ca cl cc code regs a b c n w
 rw [if_neg h2]
 by_cases h3 : op = 3
 ·rw [if_pos h3]; subst h3; exact fields_3 ra rl rc ca cl cc code regs a b c n w
 rw [if_neg h3]
 by_cases h4 : op = 4
 ·rw [if_pos h4]; subst h4; exact fields_4 ra rl rc ca cl cc code regs a b c n w
 rw [if_neg h4]
 by_cases h5 : op = 5
 ·rw [if_pos h5]; subst h5; exact fields_5 ra rl rc ca cl cc code regs a b c n rb ro log sec w hra hr hok
 rw [if_neg h5]
 by_cases h6 : op = 6
 ·rw [if_pos h6]; subst h6; exact fields_6 ra rl rc ca cl cc code regs a b c n rb ro log sec w hra hr hok
 rw [if_neg h6]
 by_cases h7 : op = 7
 ·rw [if_pos h7]; subst h7; exact fields_7 ra rl rc ca cl cc code regs a b c n w
 rw [if_neg h7]
 by_cases h8 : op = 8
 ·rw [if_pos h8]; subst h8; exact fields_8 ra rl rc ca cl cc code regs a b c n w
 rw [if_neg h8]
 by_cases h9 : op = 9
 ·rw [if_pos h9]; subst h9; exact fields_9 ra rl rc ca cl cc code regs a b c n w
 rw [if_neg h9]
 by_cases h10 : op = 10
 ·rw [if_pos h10]; subst h10; exact fields_10 ra rl rc ca cl cc code regs a b c n w
 rw [if_neg h10]
 by_cases h11 : op = 11
 ·rw [if_pos h11]; subst h11; exact fields_11 ra rl rc ca cl cc code regs a b c n w
 rw [if_neg h11]
 by_cases h12 : op = 12
 ·rw [if_pos h12]; subst h12; exact fields_12 ra rl rc ca cl cc code regs a b c n w
 rw [if_neg h12]
 exact fields_else ra rl rc ca cl cc code regs op a b c n h1 h2 h3 h4 h5 h6 h7 h8 h9 h10 h11 h12 w
set_option maxHeartbeats 1000000 in
theorem code_calls (ra : Option Addr) (rl rc : Nat) (ca : Option Addr) (cl cc : Nat) (code regs : Int) (rb ro cb co : Nat) (log : Nat → Int) (sec : Nat → Bool) (ins : Nat → Ins) (w : World) (most : Nat) (hcode : code = most) (hmost : most ≤ 8000)
  (hra : 0 < rl → ra = some ⟨rb, ro, none⟩) (hr : RegsAt w rb ro rl log sec) (hok : RegionsOk rl log) (hca : 0 < cl → ca = some ⟨cb, co, none⟩) (hc : CodeAt w cb co cl ins) :
  Calls Try.prog 67 #[.agg #[.slice ra rl rc, .slice ca cl cc, .int .i64 code, .int .i64 regs]] w (Says (CodeOk rl log cl ins most regs) w) := by
 have Hcd : Hid (code = most ∧ most ≤ 8000) := ⟨hcode, hmost⟩
 have Hr : Hid ((0 < rl → ra = some ⟨rb, ro, none⟩) ∧ RegsAt w rb ro rl log sec ∧ RegionsOk rl log) := ⟨hra, hr, hok⟩
 have Hc : Hid ((0 < cl → ca = some ⟨cb, co, none⟩) ∧ CodeAt w cb co cl ins) := ⟨hca, hc⟩
 clear hcode hmost hra hr hok hca hc
 by_cases h1 : (cl : Int) < 1
 ·go_enter Try.func67, Try.ntmps67
  go_wp2
  go_ret
  exact Says.no (fun h => by have := h.1; omega) ((More.refl _).alloc _ _)
 by_cases h2 : code < (cl : Int)
 ·go_enter Try.func67, Try.ntmps67
  go_wp2
  go_ret
  exact Says.no (fun h => by have := h.2.1; have := Hcd.out.1; omega) ((More.refl _).alloc _ _)
 have Hl : Hid (1 ≤ cl ∧ cl ≤ most) := ⟨by omega, by have := Hcd.out.1; omega⟩
 go_enter Try.func67, Try.ntmps67
 go_wp2
 go_loopg [23] cl (fun g i wr => ∃ k : Nat, k + g = cl ∧ i = .int .i64 k ∧ (∀ j, j < k → InsOk rl log cl regs (ins j)) ∧ More (w.alloc (.cells #[.slice ra rl rc, .slice ca cl cc, .int .i64 code, .int .i64 regs] 101)) wr)
 case atStart => exact ⟨0, by omega, rfl, fun j hj => by omega, More.refl _⟩
 case round =>
  obtain ⟨k, hkg, rfl, hin, m⟩ := hrel
  have Hm : Hid (More (w.alloc (.cells #[.slice ra rl rc, .slice ca cl cc, .int .i64 code, .int .i64 regs] 101)) wr ∧ ∀ j, j < k → InsOk rl log cl regs (ins j)) := ⟨m, hin⟩
  clear m hin
  cases gk with
  | zero =>
   obtain rfl : k = cl := by omega
   go_wp2
   go_ret
   exact Says.yes ⟨Hl.out.1, Hl.out.2, Hm.out.2⟩ (((More.refl _).alloc _ _).trans Hm.out.1)
  | succ g =>
   have hk : k < cl := by omega
   have hk' : (k : Int) < (cl : Int) := by omega
   obtain rfl := Hc.out.1 (by omega)
   have Hww : Hid (More w wr) := ((More.refl _).alloc _ _).trans Hm.out.1
   have hcell := (Hc.out.2.more Hww.out) k hk
   have Hrr : Hid (RegsAt wr rb ro rl log sec) := Hr.out.2.1.more Hww.out
   cases hI : ins k with
   | mk op a b c n =>
   rw [hI] at hcell
   have HI : Hid (ins k = ⟨op, a, b, c, n⟩) := hI
   clear hI
   obtain ⟨q0, q1, q2, q3, q4⟩ := hcell
   have e0 : wr.cell? ⟨w.heap.size, 0, none⟩ = some (.slice ra rl rc) := Hm.out.1.cell (by go_simp)
   have e1 : wr.cell? ⟨w.heap.size, 1, none⟩ = some (.slice (some ⟨cb, co, none⟩) cl cc) := Hm.out.1.cell (by go_simp)
   have e2 : wr.cell? ⟨w.heap.size, 2, none⟩ = some (.int .i64 code) := Hm.out.1.cell (by go_simp)
   have e3 : wr.cell? ⟨w.heap.size, 3, none⟩ = some (.int .i64 regs) := Hm.out.1.cell (by go_simp)
   obtain ⟨W, HW⟩ : ∃ W : World, Hid (W = wr.alloc (.cells #[.int .i64 op, .int .i64 a, .int .i64 b, .int .i64 c, .int .i64 n] 55)) := ⟨_, rfl⟩
   have HwW : Hid (More wr W) := HW.out ▸ ((More.refl _).alloc _ _)
   obtain ⟨S, HS⟩ : ∃ S : World → Prop, Hid (∀ w', S w' ↔ More W w') := ⟨fun w' => More W w', fun _ => Iff.rfl⟩
   have k0 : ∀ i : { w' // S w' }, i.val.cell? ⟨w.heap.size, 0, none⟩ = some (.slice ra rl rc) := fun i => ((HS.out _).1 i.property).cell (HwW.out.cell e0)
   have k1 : ∀ i : { w' // S w' }, i.val.cell? ⟨w.heap.size, 1, none⟩ = some (.slice (some ⟨cb, co, none⟩) cl cc) := fun i => ((HS.out _).1 i.property).cell (HwW.out.cell e1)
   have k2 : ∀ i : { w' // S w' }, i.val.cell? ⟨w.heap.size, 2, none⟩ = some (.int .i64 code) := fun i => ((HS.out _).1 i.property).cell (HwW.out.cell e2)
   have k3 : ∀ i : { w' // S w' }, i.val.cell? ⟨w.heap.size, 3, none⟩ = some (.int .i64 regs) := fun i => ((HS.out _).1 i.property).cell (HwW.out.cell e3)
   have d0 : ∀ i : { w' // S w' }, i.val.cell? ⟨wr.heap.size, 0, none⟩ = some (.int .i64 op) := fun i => ((HS.out _).1 i.property).cell (by rw [HW.out]; go_simp)
   have d1 : ∀ i : { w' // S w' }, i.val.cell? ⟨wr.heap.size, 1, none⟩ = some (.int .i64 a) := fun i => ((HS.out _).1 i.property).cell (by rw [HW.out]; go_simp)
   have d2 : ∀ i : { w' // S w' }, i.val.cell? ⟨wr.heap.size, 2, none⟩ = some (.int .i64 b) := fun i => ((HS.out _).1 i.property).cell (by rw [HW.out]; go_simp)
   have d3 : ∀ i : { w' // S w' }, i.val.cell? ⟨wr.heap.size, 3, none⟩ = some (.int .i64 c) := fun i => ((HS.out _).1 i.property).cell (by rw [HW.out]; go_simp)
   have d4 : ∀ i : { w' // S w' }, i.val.cell? ⟨wr.heap.size, 4, none⟩ = some (.int .i64 n) := fun i => ((HS.out _).1 i.property).cell (by rw [HW.out]; go_simp)
   have hne : Nonempty { w' // S w' } := ⟨⟨W, (HS.out _).2 (More.refl _)⟩⟩
   clear e0 e1 e2 e3
   go_wp2_with (fail)
   clear q0 q1 q2 q3 q4
   refine wp_region_ord (S := S) [(0, true), (1, true), (2, false), (3, true), (4, true), (5, true), (6, true), (7, false), (8, true), (9, true)] (by kernel_rfl) (by kernel_rfl) (by kernel_rfl) ((HS.out _).2 (HW.out ▸ (More.refl _).drew)) ?_
   iterate 2 (refine wpOrd_take rfl (by kernel_rfl) (fun K hK => ?_); go_simp; refine hK _ _ ?_; clear hK K)
   refine wpOrd_busy rfl (by kernel_rfl) (fun K hK => ?_); go_simp
   refine (named_calls op a b c n _).mono ?_
   rintro e w1 ⟨a', b', c', n', rfl, hnm, m1⟩
   have Hnm : Hid ((a = a' ∧ b = b' ∧ c = c' ∧ n = n') ↔ NamedOk op a b c n) := hnm
   have Hm1 : Hid (More W w1) := HW.out ▸ (More.trans (More.refl _).drew m1)
   clear hnm m1
   go_simp
   refine hK _ _ ((HS.out _).2 Hm1.out) ?_; clear hK K
   by_cases heq : a = a' ∧ b = b' ∧ c = c' ∧ n = n'
   ·have HN : Hid (NamedOk op a b c n) := Hnm.out.1 heq
    obtain ⟨rfl, rfl, rfl, rfl⟩ := heq
    clear Hnm
    refine wpOrd_take rfl (by kernel_rfl) (fun K hK => ?_); go_simp; refine hK _ _ ?_; clear hK K
    refine wpOrd_move rfl rfl (by kernel_rfl) (fun K hK => ?_); go_simp; refine hK _ _ ?_; clear hK K
    iterate 2 (refine wpOrd_take rfl (by kernel_rfl) (fun K hK => ?_); go_simp; refine hK _ _ ?_; clear hK K)
    refine wpOrd_busy rfl (by kernel_rfl) (fun K hK => ?_); go_simp
    refine (fields_calls ra rl rc _ cl cc code regs op a b c n rb ro log sec _ Hr.out.1 (Hrr.out.more (HwW.out.trans Hm1.out)) Hr.out.2.2).mono ?_
    rintro e w2 ⟨r2, rfl, hr2, m2⟩
    have Hm2 : Hid (More W w2) := Hm1.out.trans m2
    clear m2
    cases r2 with
    | false =>
     have HF : Hid (¬ FieldsOk rl log cl regs op a b c n) := fun h => by simpa using hr2.2 h
     clear hr2
     go_simp
     refine hK _ _ ((HS.out _).2 Hm2.out) ?_; clear hK K
     refine wpOrd_take rfl (by kernel_rfl) (fun K hK => ?_); go_simp; refine hK _ _ ?_; clear hK K
     refine wpOrd_pickF rfl rfl (by kernel_rfl) rfl (fun K hK => ?_); go_simp; refine hK _ _ ?_; clear hK K
     refine wpOrd_done ?_
     clear k0 k1 k2 k3 d0 d1 d2 d3 d4 hne
     go_wp2
     go_ret
     exact Says.no (fun h => HF.out ((ins_iff rl log cl regs op a b c n).1 (HI.out ▸ h.2.2 k hk)).2) ((Hww.out.trans HwW.out).trans Hm2.out)
    | true =>
     have HF : Hid (FieldsOk rl log cl regs op a b c n) := hr2.1 rfl
     clear hr2
     go_simp
     refine hK _ _ ((HS.out _).2 Hm2.out) ?_; clear hK K
     refine wpOrd_take rfl (by kernel_rfl) (fun K hK => ?_); go_simp; refine hK _ _ ?_; clear hK K
     refine wpOrd_pickF rfl rfl (by kernel_rfl) rfl (fun K hK => ?_); go_simp; refine hK _ _ ?_; clear hK K
     refine wpOrd_done ?_
     clear k0 k1 k2 k3 d0 d1 d2 d3 d4 hne
     go_wp2
     go_roundg g
     case measure => omega
     case rel =>
      refine ⟨k + 1, by omega, by first | rfl | (simp; unfold wrap64; have := Hl.out.2; have := Hcd.out.2; omega), fun j hj => ?_, (Hm.out.1.trans HwW.out).trans Hm2.out⟩
      by_cases e : j = k
      ·subst e; rw [HI.out]; exact (ins_iff rl log cl regs op a b c n).2 ⟨HN.out, HF.out⟩
      ·exact Hm.out.2 j (by omega)
   ·have HN : Hid (¬ NamedOk op a b c n) := fun h => heq (Hnm.out.2 h)
    clear Hnm
    have Hq : Hid (¬ (a = a' ∧ b = b' ∧ c = c' ∧ n = n')) := heq
    clear heq
    refine wpOrd_take rfl (by kernel_rfl) (fun K hK => ?_)
    go_simp
    refine ⟨.bool true, fun w9 _ => ?_, hK _ _ ?_⟩
    ·repeat' split
     all_goals first | rfl | exact absurd ⟨‹_›, ‹_›, ‹_›, ‹_›⟩ Hq.out
    clear hK K
    refine wpOrd_move rfl rfl (by kernel_rfl) (fun K hK => ?_); go_simp; refine hK _ _ ?_; clear hK K
    iterate 4 (refine wpOrd_pass rfl ((HS.out _).2 Hm1.out) (by kernel_rfl) (fun K hK => ?_); go_simp; refine hK _ _ ?_; clear hK K)
    refine wpOrd_pickT rfl rfl (by kernel_rfl) rfl (fun K hK => ?_); go_simp; refine hK _ _ ?_; clear hK K
    refine wpOrd_done ?_
    clear k0 k1 k2 k3 d0 d1 d2 d3 d4 hne
    go_wp2
    go_ret
    exact Says.no (fun h => HN.out ((ins_iff rl log cl regs op a b c n).1 (HI.out ▸ h.2.2 k hk)).1) ((Hww.out.trans HwW.out).trans Hm1.out)

theorem allowed_calls (ra : Option Addr) (rl rc : Nat) (ca : Option Addr) (cl cc : Nat) (code regs : Int) (rb ro cb co : Nat) (log : Nat → Int) (sec : Nat → Bool) (ins : Nat → Ins) (w : World) (most : Nat) (hcode : code = most) (hmost : most ≤ 8000)
  (hra : 0 < rl → ra = some ⟨rb, ro, none⟩) (hr : RegsAt w rb ro rl log sec) (hca : 0 < cl → ca = some ⟨cb, co, none⟩) (hc : CodeAt w cb co cl ins) :
  Calls Try.prog 50 #[.agg #[.slice ra rl rc, .slice ca cl cc, .int .i64 code, .int .i64 regs]] w (Says (RegionsOk rl log ∧ CodeOk rl log cl ins most regs) w) := by
 have Hcd : Hid (code = most ∧ most ≤ 8000) := ⟨hcode, hmost⟩
 have Hr : Hid ((0 < rl → ra = some ⟨rb, ro, none⟩) ∧ RegsAt w rb ro rl log sec) := ⟨hra, hr⟩
 have Hc : Hid ((0 < cl → ca = some ⟨cb, co, none⟩) ∧ CodeAt w cb co cl ins) := ⟨hca, hc⟩
 clear hcode hmost hra hr hca hc
 go_enter Try.func50, Try.ntmps50
 go_wp2_with (fail)
 refine (regions_calls ra rl rc ca cl cc code regs rb ro log sec _ Hr.out.1 (Hr.out.2.more ((More.refl _).alloc _ _))).mono ?_
 rintro e w1 ⟨r, rfl, h, m1⟩
 have e0 : w1.cell? ⟨w.heap.size, 0, none⟩ = some (.slice ra rl rc) := m1.cell (by go_simp)
 have e1 : w1.cell? ⟨w.heap.size, 1, none⟩ = some (.slice ca cl cc) := m1.cell (by go_simp)
 have e2 : w1.cell? ⟨w.heap.size, 2, none⟩ = some (.int .i64 code) := m1.cell (by go_simp)
 have e3 : w1.cell? ⟨w.heap.size, 3, none⟩ = some (.int .i64 regs) := m1.cell (by go_simp)
 have Hm : Hid (More w w1) := ((More.refl _).alloc _ _).trans m1
 clear m1
 cases r with
 | false =>
  have HA : Hid (¬ RegionsOk rl log) := fun k => by simpa using h.2 k
  clear h
  go_wp2
  go_ret
  exact Says.no (fun h => HA.out h.1) Hm.out
 | true =>
  have HA : Hid (RegionsOk rl log) := h.1 rfl
  clear h
  go_wp2_with (fail)
  refine (code_calls ra rl rc ca cl cc code regs rb ro cb co log sec ins _ most Hcd.out.1 Hcd.out.2 Hr.out.1 (Hr.out.2.more Hm.out) HA.out Hc.out.1 (Hc.out.2.more Hm.out)).mono ?_
  rintro e w2 ⟨r2, rfl, h2, m2⟩
  have H2 : Hid ((r2 = true ↔ CodeOk rl log cl ins most regs) ∧ More w1 w2) := ⟨h2, m2⟩
  clear h2 m2
  go_wp2
  go_ret
  exact ⟨r2, rfl, H2.out.1.trans ⟨fun h => ⟨HA.out, h⟩, fun h => h.2⟩, Hm.out.trans H2.out.2⟩

theorem may_calls (p : Prg) (l : Loc) (w : World) (h : PIn w p l) :
  Calls Try.prog 46 #[.agg #[.slice l.ra p.rl l.rc, .slice l.ca p.cl l.cc]] w (Says (p.Ok 200 8) w) := by
 have H : Hid (PIn w p l) := h
 clear h
 go_enter Try.func46, Try.ntmps46
 go_wp2_with (fail)
 have m0 : More w (w.alloc (.cells #[.slice l.ra p.rl l.rc, .slice l.ca p.cl l.cc] 25)) := (More.refl _).alloc _ _
 refine (allowed_calls l.ra p.rl l.rc l.ca p.cl l.cc 200 8 l.rb l.ro l.cb l.co p.log p.sec p.ins _ 200 rfl (by omega) H.out.hr (H.out.regs.more m0) H.out.hc (H.out.code.more m0)).mono ?_
 rintro e w1 ⟨r, rfl, h1, m1⟩
 have H1 : Hid ((r = true ↔ p.Ok 200 8) ∧ More w w1) := ⟨h1, m0.trans m1⟩
 clear h1 m1 m0
 go_wp2
 go_ret
 exact ⟨r, rfl, H1.out.1, H1.out.2⟩
end
section
open Go.RowKit
set_option linter.unusedSimpArgs false
set_option linter.unusedVariables false
set_option maxRecDepth 8000
theorem made_places (cl : Nat) (B : Nat) (w : World) (h : Blk w B (madeCells #[.int .i64 0, .bool false, .int .i64 0, .bool false, .int .i64 0, .bool false, .int .i64 0, .bool false, .int .i64 0, .bool false, .int .i64 0, .bool false, .int .i64 0, .bool false, .int .i64 0, .bool false, .bool false] (cl * 17)) 122) : PlS w B cl (fun _ => none) := by
 refine ⟨_, h, size_madeCells _ _, fun k j hk hj => ?_⟩
 rw [pv_none]
 unfold madeCells
 rw [Array.getElem?_map, Array.getElem?_range, if_pos (by omega)]
 have hm : (k * 17 + j) % 17 = j := by omega
 have hz : (#[.int .i64 0, .bool false, .int .i64 0, .bool false, .int .i64 0, .bool false, .int .i64 0, .bool false, .int .i64 0, .bool false, .int .i64 0, .bool false, .int .i64 0, .bool false, .int .i64 0, .bool false, .bool false] : Array Value).size = 17 := rfl
 simp only [Option.map_some]
 rw [hz, hm]
 rw [getElem!_pos _ j (by omega), Array.getElem?_eq_getElem (by omega)]
theorem info107m : ∃ i, Try.prog.info? 122 = some i ∧ i.zero = some (.agg #[.int .i64 0, .bool false, .int .i64 0, .bool false, .int .i64 0, .bool false, .int .i64 0, .bool false, .int .i64 0, .bool false, .int .i64 0, .bool false, .int .i64 0, .bool false, .int .i64 0, .bool false, .bool false]) ∧ i.size = 17 ∧ i.bytes = 136 := by
 have h : (Try.prog.info? 122).map (fun i => (i.zero, i.size, i.bytes)) = some (some (.agg #[.int .i64 0, .bool false, .int .i64 0, .bool false, .int .i64 0, .bool false, .int .i64 0, .bool false, .int .i64 0, .bool false, .int .i64 0, .bool false, .int .i64 0, .bool false, .int .i64 0, .bool false, .bool false]), 17, 136) := by kernel_rfl
 obtain ⟨i, h1, h2⟩ := Option.map_eq_some_iff.1 h
 simp only [Prod.mk.injEq] at h2
 exact ⟨i, h1, h2.1, h2.2.1, h2.2.2⟩
theorem run_make107 (cl : Nat) (h : cl ≤ 200) (w : World) : (Instr.makeSlice 94 (.int .i64 (cl : Int)) (.int .i64 (cl : Int))).run Try.prog w = .ok (.slice (some ⟨w.heap.size, 0, none⟩) cl cl) (w.alloc (.cells (madeCells #[.int .i64 0, .bool false, .int .i64 0, .bool false, .int .i64 0, .bool false, .int .i64 0, .bool false, .int .i64 0, .bool false, .int .i64 0, .bool false, .int .i64 0, .bool false, .int .i64 0, .bool false, .bool false] (cl * 17)) 122)) := by
 obtain ⟨i, h1, h2, h3, h4⟩ := info107m
 have := run_make (P := Try.prog) w 94 122 i (.agg #[.int .i64 0, .bool false, .int .i64 0, .bool false, .int .i64 0, .bool false, .int .i64 0, .bool false, .int .i64 0, .bool false, .int .i64 0, .bool false, .int .i64 0, .bool false, .int .i64 0, .bool false, .bool false]) Try.underlying94 h1 h2 .i64 .i64 cl cl (by omega) (Int.le_refl _) (by rw [h4]; omega) (by omega)
 rw [h3] at this
 simp only [Int.toNat_natCast] at this
 exact this
theorem info59s : (Try.prog.info? 97).map (·.size) = some 4 := by kernel_rfl

/-- Where Check stands ahead of the store of its checker. -/
structure ChB (w1 : World) (cl gM gB : Nat) (w' : World) : Prop where
 bM : Blk w' gM #[.slice none 0 0, .slice none 0 0, .slice none 0 0, .slice none 0 0] 97
 bB : Blk w' gB (madeCells #[.int .i64 0, .bool false, .int .i64 0, .bool false, .int .i64 0, .bool false, .int .i64 0, .bool false, .int .i64 0, .bool false, .int .i64 0, .bool false, .int .i64 0, .bool false, .int .i64 0, .bool false, .bool false] (cl * 17)) 122
 up : More w1 w'
 ltM : w1.heap.size ≤ gM
 ltB : w1.heap.size ≤ gB
 ne : gM ≠ gB

theorem check_form (p : Prg) (lo : Loc) (w : World) (hp : PIn w p lo) (hno : ¬ p.Ok 200 8) :
  Calls Try.prog 29 #[.agg #[.slice lo.ra p.rl lo.rc, .slice lo.ca p.cl lo.cc]] w fun e w' => e = .returned (.agg #[.int .i64 2, .int .i64 0]) ∧ More w w' := by
 have cm : Calls Try.prog 46 #[.agg #[.slice lo.ra p.rl lo.rc, .slice lo.ca p.cl lo.cc]] ((w.alloc (.cells #[.slice lo.ra p.rl lo.rc, .slice lo.ca p.cl lo.cc] 25)).alloc (.cells #[.int .i64 0, .int .i64 0] 29)) fun e w' => e = .returned (.bool false) ∧ More ((w.alloc (.cells #[.slice lo.ra p.rl lo.rc, .slice lo.ca p.cl lo.cc] 25)).alloc (.cells #[.int .i64 0, .int .i64 0] 29)) w' := by
  refine (may_calls p lo _ (hp.more (((More.refl _).alloc _ _).alloc _ _))).mono ?_
  rintro e w' ⟨r, rfl, hr, m⟩
  cases r with
  | false => exact ⟨rfl, m⟩
  | true => exact absurd (hr.1 rfl) hno
 clear hp hno
 go_enter Try.func29, Try.ntmps29
 go_wp2_with (fail)
 refine cm.mono ?_
 rintro e w1 ⟨rfl, m1⟩
 have HR : Hid (Blk w1 (w.heap.size + 1) #[.int .i64 0, .int .i64 0] 29 ∧ More w w1) := ⟨(by simpa using Blk.last (w.alloc (.cells #[.slice lo.ra p.rl lo.rc, .slice lo.ca p.cl lo.cc] 25)) #[.int .i64 0, .int .i64 0] 29 : Blk _ (w.heap.size + 1) _ _).more m1, (((More.refl _).alloc _ _).alloc _ _).trans m1⟩
 have t0 := HR.out.1.cell (j := 0) rfl
 have t1 := HR.out.1.cell (j := 1) rfl
 have u0 := HR.out.1.frozen 0
 have u1 := HR.out.1.frozen 1
 clear m1 cm
 go_wp2
 refine bodyPost_ret (by simp [results, Try.results29, go_sem, *]) rfl ⟨rfl, ?_⟩
 exact (HR.out.2.setCell (by dsimp only; omega) _).setCell (by dsimp only; omega) _

set_option maxHeartbeats 2000000 in
theorem check_ok_calls (p : Prg) (lo : Loc) (w : World) (hp : PIn w p lo) (hok : p.Ok 200 8) (hnr : ∀ i, i < p.cl → -9223372036854775808 ≤ (p.ins i).n ∧ (p.ins i).n ≤ 9223372036854775807) :
  Calls Try.prog 29 #[.agg #[.slice lo.ra p.rl lo.rc, .slice lo.ca p.cl lo.cc]] w fun e w' => ∃ l, Known p l ∧ e = .returned (.agg #[.int .i64 (checkK p l).1, .int .i64 (checkK p l).2]) ∧ More w w' := by
 suffices hP : ∀ P : Ending → World → Prop, (∀ l, Known p l → ∀ w', More w w' → P (.returned (.agg #[.int .i64 (checkK p l).1, .int .i64 (checkK p l).2])) w') → Calls Try.prog 29 #[.agg #[.slice lo.ra p.rl lo.rc, .slice lo.ca p.cl lo.cc]] w P from hP _ (fun l h1 w' h2 => ⟨l, h1, rfl, h2⟩)
 intro P hP0
 have HP : Hid (∀ l, Known p l → ∀ w', More w w' → P (.returned (.agg #[.int .i64 (checkK p l).1, .int .i64 (checkK p l).2])) w') := hP0
 clear hP0
 have H : Hid (PIn w p lo ∧ p.Ok 200 8 ∧ ∀ i, i < p.cl → -9223372036854775808 ≤ (p.ins i).n ∧ (p.ins i).n ≤ 9223372036854775807) := ⟨hp, hok, hnr⟩
 have cm : Calls Try.prog 46 #[.agg #[.slice lo.ra p.rl lo.rc, .slice lo.ca p.cl lo.cc]] ((w.alloc (.cells #[.slice lo.ra p.rl lo.rc, .slice lo.ca p.cl lo.cc] 25)).alloc (.cells #[.int .i64 0, .int .i64 0] 29)) fun e w' => e = .returned (.bool true) ∧ More ((w.alloc (.cells #[.slice lo.ra p.rl lo.rc, .slice lo.ca p.cl lo.cc] 25)).alloc (.cells #[.int .i64 0, .int .i64 0] 29)) w' := by
  refine (may_calls p lo _ (hp.more (((More.refl _).alloc _ _).alloc _ _))).mono ?_
  rintro e w' ⟨r, rfl, hr, m⟩
  cases r with
  | true => exact ⟨rfl, m⟩
  | false => exact absurd (hr.2 hok) (by simp)
 have hcl : p.cl ≤ 200 := hok.2.2.1
 clear hp hok hnr
 obtain ⟨cl, Hcl⟩ : ∃ x, Hid (p.cl = x) := ⟨_, rfl⟩
 rw [Hcl.out] at hcl cm ⊢
 have hi2 : ((cl : Int) ≤ 200) := by omega
 have hmk := run_make107 cl hcl
 obtain ⟨Zs, hZs⟩ : ∃ x, madeCells #[.int .i64 0, .bool false, .int .i64 0, .bool false, .int .i64 0, .bool false, .int .i64 0, .bool false, .int .i64 0, .bool false, .int .i64 0, .bool false, .int .i64 0, .bool false, .int .i64 0, .bool false, .bool false] (cl * 17) = x := ⟨_, rfl⟩
 have HZs : Hid (madeCells #[.int .i64 0, .bool false, .int .i64 0, .bool false, .int .i64 0, .bool false, .int .i64 0, .bool false, .int .i64 0, .bool false, .int .i64 0, .bool false, .int .i64 0, .bool false, .int .i64 0, .bool false, .bool false] (cl * 17) = Zs) := hZs
 rw [hZs] at hmk
 clear hZs
 obtain ⟨ra, Hra⟩ : ∃ x, Hid (lo.ra = x) := ⟨_, rfl⟩
 obtain ⟨rl, Hrl⟩ : ∃ x, Hid (p.rl = x) := ⟨_, rfl⟩
 obtain ⟨rc, Hrc⟩ : ∃ x, Hid (lo.rc = x) := ⟨_, rfl⟩
 obtain ⟨ca, Hca⟩ : ∃ x, Hid (lo.ca = x) := ⟨_, rfl⟩
 obtain ⟨cc, Hcc⟩ : ∃ x, Hid (lo.cc = x) := ⟨_, rfl⟩
 rw [Hra.out, Hrl.out, Hrc.out, Hca.out, Hcc.out] at cm ⊢
 go_enter Try.func29, Try.ntmps29
 go_wp2_with (fail)
 refine cm.mono ?_
 rintro e w1 ⟨rfl, m1⟩
 have HR : Hid (Blk w1 w.heap.size #[.slice ra rl rc, .slice ca cl cc] 25 ∧ Blk w1 (w.heap.size + 1) #[.int .i64 0, .int .i64 0] 29 ∧ More w w1) := ⟨((Blk.last _ _ _).alloc _ _).more m1, (by simpa using Blk.last (w.alloc (.cells #[.slice ra rl rc, .slice ca cl cc] 25)) #[.int .i64 0, .int .i64 0] 29 : Blk _ (w.heap.size + 1) _ _).more m1, (((More.refl _).alloc _ _).alloc _ _).trans m1⟩
 have Hpin : Hid (PIn w1 p lo) := H.out.1.more HR.out.2.2
 clear m1 cm
 obtain ⟨S, HS⟩ : ∃ S : World → Prop, Hid (∀ w', S w' ↔ More w1 w') := ⟨_, fun _ => Iff.rfl⟩
 have HS0 : S w1.drew := (HS.out _).2 (More.refl _).drew
 have hne : Nonempty { w' // S w' } := ⟨⟨_, HS0⟩⟩
 have k0 : ∀ i : { w' // S w' }, i.val.cell? ⟨w.heap.size, 0, none⟩ = some (.slice ra rl rc) := fun i => (HR.out.1.more ((HS.out _).1 i.property)).cell rfl
 have k1 : ∀ i : { w' // S w' }, i.val.cell? ⟨w.heap.size, 1, none⟩ = some (.slice ca cl cc) := fun i => (HR.out.1.more ((HS.out _).1 i.property)).cell rfl
 go_wp2_with (fail)
 refine wp_region_left (S := S) (by kernel_rfl) HS0 ?_
 refine ol_take 0 rfl (by kernel_rfl) HS0 (by kernel_rfl) (fun K hK => ?_); go_simp; refine hK _ _ ?_; clear hK K
 refine ol_take 1 rfl (by kernel_rfl) HS0 (by kernel_rfl) (fun K hK => ?_); go_simp; refine hK _ _ ?_; clear hK K
 refine ol_take 2 rfl (by kernel_rfl) HS0 (by kernel_rfl) (fun K hK => ?_); go_simp; refine hK _ _ ?_; clear hK K
 refine ol_take 3 rfl (by kernel_rfl) HS0 (by kernel_rfl) (fun K hK => ?_); go_simp; refine hK _ _ ?_; clear hK K
 obtain ⟨wd, Hwd⟩ : ∃ wd : World, Hid (wd = w1.drew) := ⟨_, rfl⟩
 have Hmwd : Hid (More w1 wd) := Hwd.out ▸ (More.refl w1).drew
 rw [← Hwd.out]
 clear k0 k1
 apply by_key
 ·intro key
  refine ol_two 4 6 (by kernel_rfl) ?_ ?_
  ·refine ol_step rfl (by kernel_rfl) (fun K hK => ?_); go_simp
   obtain ⟨w2, Hw2⟩ : ∃ w_ : World, Hid (w_ = wd.alloc (.cells Zs 122)) := ⟨_, rfl⟩
   have m2 : More wd w2 := Hw2.out ▸ (More.refl _).alloc _ _
   have Hm2 : Hid (More w1 w2) := Hmwd.out.trans m2
   have Hb2 : Hid (Blk w2 wd.heap.size Zs 122) := Hw2.out ▸ Blk.last _ _ _
   rw [← Hw2.out]
   clear m2 Hw2
   have HS2 : S w2 := (HS.out _).2 Hm2.out
   refine hK _ _ HS2 ?_; clear hK K
   refine ol_take 5 rfl (by kernel_rfl) HS2 (by kernel_rfl) (fun K hK => ?_); go_simp; refine hK _ _ ?_; clear hK K
   refine ol_one 6 (by kernel_rfl) ?_
   refine ol_step rfl (by kernel_rfl) (fun K hK => ?_); go_simp
   obtain ⟨w3, Hw3⟩ : ∃ w_ : World, Hid (w_ = w2.alloc (.cells #[.slice none 0 0, .slice none 0 0, .slice none 0 0, .slice none 0 0] 97)) := ⟨_, rfl⟩
   have m3 : More w2 w3 := Hw3.out ▸ (More.refl _).alloc _ _
   have Hm3 : Hid (More w1 w3) := Hm2.out.trans m3
   have Hb3 : Hid (Blk w3 w2.heap.size #[.slice none 0 0, .slice none 0 0, .slice none 0 0, .slice none 0 0] 97) := Hw3.out ▸ Blk.last _ _ _
   have F : Hid (ChB w1 cl w2.heap.size wd.heap.size w3) := ⟨Hb3.out, HZs.out ▸ Hb2.out.more m3, Hm3.out, Hm2.out.size, Hmwd.out.size, Nat.ne_of_gt Hb2.out.lt⟩
   rw [← Hw3.out]
   clear m3 Hw3
   refine hK _ _ ((HS.out _).2 Hm3.out) ?_; clear hK K
   refine ol_cast (listed' := #[true, true, true, true, true, true, true, false]) (by kernel_rfl) ?_
   clear Hb2 Hm2 HS2 Hm3 Hb3
   generalize w2.heap.size = gM at F ⊢
   generalize wd.heap.size = gB at F ⊢
   clear w2
   revert w3 gM gB
   exact key
  ·refine ol_step rfl (by kernel_rfl) (fun K hK => ?_); go_simp
   obtain ⟨w2, Hw2⟩ : ∃ w_ : World, Hid (w_ = wd.alloc (.cells #[.slice none 0 0, .slice none 0 0, .slice none 0 0, .slice none 0 0] 97)) := ⟨_, rfl⟩
   have m2 : More wd w2 := Hw2.out ▸ (More.refl _).alloc _ _
   have Hm2 : Hid (More w1 w2) := Hmwd.out.trans m2
   have Hb2 : Hid (Blk w2 wd.heap.size #[.slice none 0 0, .slice none 0 0, .slice none 0 0, .slice none 0 0] 97) := Hw2.out ▸ Blk.last _ _ _
   rw [← Hw2.out]
   clear m2 Hw2
   refine hK _ _ ((HS.out _).2 Hm2.out) ?_; clear hK K
   refine ol_one 4 (by kernel_rfl) ?_
   refine ol_step rfl (by kernel_rfl) (fun K hK => ?_); go_simp
   obtain ⟨w3, Hw3⟩ : ∃ w_ : World, Hid (w_ = w2.alloc (.cells Zs 122)) := ⟨_, rfl⟩
   have m3 : More w2 w3 := Hw3.out ▸ (More.refl _).alloc _ _
   have Hm3 : Hid (More w1 w3) := Hm2.out.trans m3
   have Hb3 : Hid (Blk w3 w2.heap.size Zs 122) := Hw3.out ▸ Blk.last _ _ _
   have F : Hid (ChB w1 cl wd.heap.size w2.heap.size w3) := ⟨Hb2.out.more m3, HZs.out ▸ Hb3.out, Hm3.out, Hmwd.out.size, Hm2.out.size, Nat.ne_of_lt Hb2.out.lt⟩
   rw [← Hw3.out]
   clear m3 Hw3
   have HS3 : S w3 := (HS.out _).2 Hm3.out
   refine hK _ _ HS3 ?_; clear hK K
   refine ol_take 5 rfl (by kernel_rfl) HS3 (by kernel_rfl) (fun K hK => ?_); go_simp; refine hK _ _ ?_; clear hK K
   refine ol_cast (listed' := #[true, true, true, true, true, true, true, false]) (by kernel_rfl) ?_
   exact key _ _ _ F
 ·intro w3 gM gB F
  obtain ⟨w4, Hw4⟩ : ∃ w_ : World, Hid (w_ = w3.setRow gM #[.slice ra rl rc, .slice ca cl cc, .slice (some ⟨gB, 0, none⟩) cl cl, .slice none 0 0]) := ⟨_, rfl⟩
  have Hck : Hid (Ck w1 p lo gM gB (fun _ => none) [] (.slice none 0 0) w4) := by
   rw [Hw4.out]
   refine ⟨?_, World.ownsRow_nil _ _ _ _, ?_, F.out.up.setRow F.out.ltM _, Hpin.out, ⟨F.out.ltM, F.out.ltB⟩⟩
   ·rw [Hra.out, Hrl.out, Hrc.out, Hca.out, Hcc.out, Hcl.out]
    exact F.out.bM.setRow _
   ·rw [Hcl.out]
    exact made_places cl gB _ (F.out.bB.setRow_other F.out.ne.symm _)
  refine ol_one 7 (by kernel_rfl) ?_
  refine ol_step rfl (by kernel_rfl) (fun K hK => ?_)
  refine wp_store_row 97 (.tmp 3) (.tmp 13) rfl gM #[.slice ra rl rc, .slice ca cl cc, .slice (some ⟨gB, 0, none⟩) cl cl, .slice none 0 0] rfl rfl 97 _ F.out.bM info59s rfl (by simp [Value.oneCell']) ?_
  rw [← Hw4.out]
  refine hK _ _ ((HS.out _).2 Hck.out.up) ?_; clear hK K
  refine ol_done (by kernel_rfl) ?_
  clear hne HS0
  have c1 := learn_calls Hck.out H.out.2.1 H.out.2.2
  go_wp2_with (fail)
  refine c1.mono ?_
  rintro e w5 ⟨rfl, kp5, l, tv, hk5, ck5⟩
  have Hck5 : Hid (Ck w1 p lo gM gB l [] tv w5 ∧ Known p l) := ⟨ck5, hk5⟩
  have c2 : Calls Try.prog 48 #[.pointer (some ⟨gM, 0, none⟩)] w5 fun e w' => e = .returned (.agg #[.int .i64 (checkK p l).1, .int .i64 (checkK p l).2]) ∧ More w5 w' := first_calls ck5 H.out.2.1 H.out.2.2 (by simp)
  clear kp5 hk5 ck5 c1
  have HP2 : Hid (∀ w', More w w' → P (.returned (.agg #[.int .i64 (checkK p l).1, .int .i64 (checkK p l).2])) w') := HP.out l Hck5.out.2
  obtain ⟨f, hf⟩ : ∃ x, checkK p l = x := ⟨_, rfl⟩
  rw [hf] at c2 HP2
  clear hf HP
  obtain ⟨f1, f2⟩ := f
  dsimp only at c2 HP2
  go_wp2_with (fail)
  refine c2.mono ?_
  rintro e w6 ⟨rfl, m6⟩
  have HR6 : Hid (Blk w6 (w.heap.size + 1) #[.int .i64 0, .int .i64 0] 29 ∧ More w w6) := ⟨HR.out.2.1.more (Hck5.out.1.up.trans m6), HR.out.2.2.trans (Hck5.out.1.up.trans m6)⟩
  have t0 := HR6.out.1.cell (j := 0) rfl
  have t1 := HR6.out.1.cell (j := 1) rfl
  have u0 := HR6.out.1.frozen 0
  have u1 := HR6.out.1.frozen 1
  clear m6 c2
  go_wp2
  refine bodyPost_ret (v := .agg #[.int .i64 f1, .int .i64 f2]) (by simp [results, Try.results29, go_sem, *]) rfl (HP2.out _ ?_)
  exact (HR6.out.2.setCell (by dsimp only; omega) _).setCell (by dsimp only; omega) _
end
section
open Go.RowKit
def tri (x y z : Int) (j : Nat) : Int := if j = 0 then x else if j = 1 then y else z
theorem tri_cells {w : World} {g : Nat} {x y z : Int} (h0 : w.cell? ⟨g, 0, none⟩ = some (.int .i64 x)) (h1 : w.cell? ⟨g, 1, none⟩ = some (.int .i64 y)) (h2 : w.cell? ⟨g, 2, none⟩ = some (.int .i64 z)) :
  ∀ j, j < 3 → w.cell? ⟨g, j, none⟩ = some (.int .i64 (tri x y z j)) := by
 intro j hj
 have : j = 0 ∨ j = 1 ∨ j = 2 := by omega
 rcases this with rfl | rfl | rfl
 ·exact h0
 ·exact h1
 ·exact h2

/-- What a shape is told as. -/
def Shape (x y z : Int) (num : Bool) (w : World) (e : Ending) (w' : World) : Prop :=
 ∃ g : Nat, e = .returned (.tuple #[.slice (some ⟨g, 0, none⟩) 3 3, .bool num, .bool true]) ∧ (∀ j, j < 3 → w'.cell? ⟨g, j, none⟩ = some (.int .i64 (tri x y z j))) ∧ More w w'

theorem shape_1 (w : World) : Calls Try.prog 69 #[.int .i64 1] w (Shape 1 0 0 true w) := by
 go_enter Try.func69, Try.ntmps69
 go_wp2
 go_ret3
 exact ⟨w.heap.size, rfl, tri_cells (by go_simp) (by go_simp) (by go_simp), (More.refl _).alloc _ _⟩

theorem shape_2 (w : World) : Calls Try.prog 69 #[.int .i64 2] w (Shape 1 1 0 false w) := by
 go_enter Try.func69, Try.ntmps69
 go_wp2
 go_ret3
 exact ⟨w.heap.size, rfl, tri_cells (by go_simp) (by go_simp) (by go_simp), (More.refl _).alloc _ _⟩

theorem shape_3 (w : World) : Calls Try.prog 69 #[.int .i64 3] w (Shape 1 1 2 true w) := by
 go_enter Try.func69, Try.ntmps69
 go_wp2
 go_ret3
 exact ⟨w.heap.size, rfl, tri_cells (by go_simp) (by go_simp) (by go_simp), (More.refl _).alloc _ _⟩

theorem shape_4 (w : World) : Calls Try.prog 69 #[.int .i64 4] w (Shape 1 1 2 true w) := by
 go_enter Try.func69, Try.ntmps69
 go_wp2
 go_ret3
 exact ⟨w.heap.size, rfl, tri_cells (by go_simp) (by go_simp) (by go_simp), (More.refl _).alloc _ _⟩

theorem shape_5 (w : World) : Calls Try.prog 69 #[.int .i64 5] w (Shape 1 0 2 true w) := by
 go_enter Try.func69, Try.ntmps69
 go_wp2
 go_ret3
 exact ⟨w.heap.size, rfl, tri_cells (by go_simp) (by go_simp) (by go_simp), (More.refl _).alloc _ _⟩

theorem shape_6 (w : World) : Calls Try.prog 69 #[.int .i64 6] w (Shape 1 0 2 true w) := by
 go_enter Try.func69, Try.ntmps69
 go_wp2
 go_ret3
 exact ⟨w.heap.size, rfl, tri_cells (by go_simp) (by go_simp) (by go_simp), (More.refl _).alloc _ _⟩

theorem shape_7 (w : World) : Calls Try.prog 69 #[.int .i64 7] w (Shape 0 0 0 true w) := by
 go_enter Try.func69, Try.ntmps69
 go_wp2
 go_ret3
 exact ⟨w.heap.size, rfl, tri_cells (by go_simp) (by go_simp) (by go_simp), (More.refl _).alloc _ _⟩

theorem shape_8 (w : World) : Calls Try.prog 69 #[.int .i64 8] w (Shape 1 1 2 true w) := by
 go_enter Try.func69, Try.ntmps69
 go_wp2
 go_ret3
 exact ⟨w.heap.size, rfl, tri_cells (by go_simp) (by go_simp) (by go_simp), (More.refl _).alloc _ _⟩

theorem shape_9 (w : World) : Calls Try.prog 69 #[.int .i64 9] w (Shape 1 0 0 false w) := by
 go_enter Try.func69, Try.ntmps69
 go_wp2
 go_ret3
 exact ⟨w.heap.size, rfl, tri_cells (by go_simp) (by go_simp) (by go_simp), (More.refl _).alloc _ _⟩

theorem shape_10 (w : World) : Calls Try.prog 69 #[.int .i64 10] w (Shape 1 1 0 true w) := by
 go_enter Try.func69, Try.ntmps69
 go_wp2
 go_ret3
 exact ⟨w.heap.size, rfl, tri_cells (by go_simp) (by go_simp) (by go_simp), (More.refl _).alloc _ _⟩

theorem shape_11 (w : World) : Calls Try.prog 69 #[.int .i64 11] w (Shape 1 0 0 true w) := by
 go_enter Try.func69, Try.ntmps69
 go_wp2
 go_ret3
 exact ⟨w.heap.size, rfl, tri_cells (by go_simp) (by go_simp) (by go_simp), (More.refl _).alloc _ _⟩

theorem shape_12 (w : World) : Calls Try.prog 69 #[.int .i64 12] w (Shape 0 0 0 false w) := by
 go_enter Try.func69, Try.ntmps69
 go_wp2
 go_ret3
 exact ⟨w.heap.size, rfl, tri_cells (by go_simp) (by go_simp) (by go_simp), (More.refl _).alloc _ _⟩

theorem shape_op (op : Int) (h1 : 20 < op) (h2 : op ≤ 30) (w : World) : Calls Try.prog 69 #[.int .i64 op] w (Shape 1 1 1 false w) := by
 go_enter Try.func69, Try.ntmps69
 go_wp2
 go_ret3
 exact ⟨w.heap.size, rfl, tri_cells (by go_simp) (by go_simp) (by go_simp), (More.refl _).alloc _ _⟩

theorem shape_else (op : Int) (h1 : ¬ op = 1) (h2 : ¬ op = 2) (h3 : ¬ op = 3) (h4 : ¬ op = 4) (h5 : ¬ op = 5) (h6 : ¬ op = 6) (h7 : ¬ op = 7) (h8 : ¬ op = 8) (h9 : ¬ op = 9) (h10 : ¬ op = 10) (h11 : ¬ op = 11) (h12 : ¬ op = 12) (h : ¬ (20 < op ∧ op ≤ 30)) (w : World) : Calls Try.prog 69 #[.int .i64 op] w fun e w' => e = .returned (.tuple #[.slice none 0 0, .bool false, .bool false]) ∧ w' = w := by
 by_cases h20 : 20 < op
 ·have h30 : ¬ op ≤ 30 := fun k => h ⟨h20, k⟩
  clear h
  go_enter Try.func69, Try.ntmps69
  go_wp2
  go_ret3
  exact ⟨rfl, rfl⟩
 ·clear h
  go_enter Try.func69, Try.ntmps69
  go_wp2
  go_ret3
  exact ⟨rfl, rfl⟩

set_option maxHeartbeats 400000 in
theorem ref_regions (ra : Option Addr) (rl rc : Nat) (ca : Option Addr) (cl cc : Nat) (b o : Nat) (log : Nat → Int) (sec : Nat → Bool) (w : World)
  (hra : 0 < rl → ra = some ⟨b, o, none⟩) (hr : RegsAt w b o rl log sec) :
  Calls Try.prog 20 #[.agg #[.slice ra rl rc, .slice ca cl cc]] w (Says (RegionsOk rl log) w) := by
 by_cases h6 : 6 < rl
 ·have Hr : Hid (RegsAt w b o rl log sec) := hr
  clear hr
  have h6' : (6 : Int) < (rl : Int) := by omega
  go_enter Try.func20, Try.ntmps20
  go_wp2
  go_ret
  exact Says.no (fun h => by have := h.1; omega) ((More.refl _).alloc _ _)
 ·have h6' : ¬ (6 : Int) < (rl : Int) := by omega
  have Hr : Hid (RegsAt w b o rl log sec) := hr
  have Ha : Hid (0 < rl → ra = some ⟨b, o, none⟩) := hra
  clear hr hra
  go_enter Try.func20, Try.ntmps20
  go_wp2
  go_loopg [3] rl (fun g i wr => ∃ k : Nat, k + g = rl ∧ i = .int .i64 k ∧ (∀ j, j < k → 0 ≤ log j ∧ log j ≤ 6) ∧ wr = w.alloc (.cells #[.slice ra rl rc, .slice ca cl cc] 25))
  case atStart => exact ⟨0, by omega, rfl, fun j hj => by omega, rfl⟩
  case round =>
   obtain ⟨k, hkg, rfl, hok, rfl⟩ := hrel
   have Hok : Hid (∀ j, j < k → 0 ≤ log j ∧ log j ≤ 6) := hok
   clear hok
   cases gk with
   | zero =>
    obtain rfl : k = rl := by omega
    go_wp2
    go_ret
    exact Says.yes ⟨by omega, Hok.out⟩ ((More.refl _).alloc _ _)
   | succ g =>
    have hk : k < rl := by omega
    have hk' : (k : Int) < (rl : Int) := by omega
    obtain rfl := Ha.out (by omega)
    have hc0 := ((Hr.out.more ((More.refl _).alloc #[.slice (some ⟨b, o, none⟩) rl rc, .slice ca cl cc] 25)) k hk).1
    by_cases hlo : log k < 0
    ·go_wp2
     go_ret
     exact Says.no (fun h => by have := (h.2 k hk).1; omega) ((More.refl _).alloc _ _)
    ·by_cases hhi : 6 < log k
     ·go_wp2
      go_ret
      exact Says.no (fun h => by have := (h.2 k hk).2; omega) ((More.refl _).alloc _ _)
     ·go_wp2
      go_roundg g
      case measure => omega
      case rel =>
       refine ⟨k + 1, by omega, by first | rfl | simp, fun j hj => ?_, rfl⟩
       by_cases e : j = k
       ·subst e; omega
       ·exact Hok.out j (by omega)

theorem ref_words (l : Int) (h0 : 0 ≤ l) (h1 : l ≤ 6) (s : Bool) (w : World) :
  Calls Try.prog 21 #[.agg #[.int .i64 l, .bool s]] w fun e w' => e = .returned (.int .i64 (wordsI l)) ∧ More w w' := by
 obtain ⟨n, rfl⟩ : ∃ n : Nat, l = n := ⟨l.toNat, by omega⟩
 have hn : n ≤ 6 := by omega
 clear h0 h1
 obtain ⟨R, HR⟩ : ∃ R, Hid (wordsI (n : Int) = R) := ⟨_, rfl⟩
 rw [HR.out]
 go_enter Try.func21, Try.ntmps21
 go_wp2
 go_loopg [3, 4] n (fun g nv i wr => ∃ (k : Nat) (m : Int), k + g = n ∧ m = 2 ^ k ∧ nv = .int .i64 m ∧ i = .int .i64 k ∧ wr = w.alloc (.cells #[.int .i64 n, .bool s] 64))
 case atStart => exact ⟨0, 1, by omega, by decide, rfl, rfl, rfl⟩
 case round =>
  obtain ⟨k, m, hkg, hm, rfl, rfl, rfl⟩ := hrel
  have hb := two_pow_le (k := k) (by omega)
  rw [← hm] at hb
  have Hm : Hid (m = 2 ^ k) := hm
  clear hm
  obtain ⟨b0, b1⟩ := hb
  cases gk with
  | zero =>
   obtain rfl : k = n := by omega
   go_wp2
   go_ret
   refine ⟨?_, (More.refl _).alloc _ _⟩
   rw [Hm.out, ← HR.out]
   simp [wordsI]
  | succ g =>
   have hk' : (k : Int) < (n : Int) := by omega
   go_wp2
   go_roundg g
   case measure => omega
   case rel =>
    refine ⟨k + 1, m + m, by omega, by rw [Int.pow_succ, ← Hm.out]; omega, ?_, by first | rfl | simp, rfl⟩
    first | rfl | (simp; unfold wrap64; omega)
/-- A field: not there (0), a register (1), or something else. -/
def Fld (regs l f : Int) : Prop := (l = 0 → f = 0) ∧ (l = 1 → Reg regs f)

/-- The boxes of the program and of the instruction, in a world that has grown since. -/
theorem boxes2 {w w1 : World} {x0 x1 y0 y1 y2 y3 y4 : Value} {t u : TypeId} (m : More ((w.alloc (.cells #[x0, x1] t)).alloc (.cells #[y0, y1, y2, y3, y4] u)) w1) :
  (w1.cell? ⟨w.heap.size, 0, none⟩ = some x0 ∧ w1.cell? ⟨w.heap.size, 1, none⟩ = some x1) ∧
  w1.cell? ⟨w.heap.size + 1, 0, none⟩ = some y0 ∧ w1.cell? ⟨w.heap.size + 1, 1, none⟩ = some y1 ∧ w1.cell? ⟨w.heap.size + 1, 2, none⟩ = some y2 ∧ w1.cell? ⟨w.heap.size + 1, 3, none⟩ = some y3 ∧ w1.cell? ⟨w.heap.size + 1, 4, none⟩ = some y4 := by
 refine ⟨⟨m.cell (by go_simp), m.cell (by go_simp)⟩, m.cell (by go_simp), m.cell (by go_simp), m.cell (by go_simp), m.cell (by go_simp), m.cell (by go_simp)⟩
set_option maxRecDepth 8000 in
set_option maxHeartbeats 1000000 in
theorem ins_1 (ra : Option Addr) (rl rc : Nat) (ca : Option Addr) (cl cc : Nat) (a b c n regs : Int) (w : World) (P : Prop) (HP : Hid (P ↔ (True ∧ (∀ j, j < 3 → Fld regs (tri 1 0 0 j) (tri a b c j)) ∧ True))) :
  Calls Try.prog 54 #[.agg #[.slice ra rl rc, .slice ca cl cc], .agg #[.int .i64 1, .int .i64 a, .int .i64 b, .int .i64 c, .int .i64 n], .int .i64 regs] w (Says P w) := by
 go_enter Try.func54, Try.ntmps54
 go_wp2_with (fail)
 refine (shape_1 _).mono ?_
 rintro e w1 ⟨g, rfl, hg, m1⟩
 obtain ⟨⟨c0, c1⟩, d0, d1, d2, d3, d4⟩ := boxes2 m1
 have Hg : Hid (∀ j, j < 3 → w1.cell? ⟨g, j, none⟩ = some (.int .i64 (tri 1 0 0 j))) := hg
 have Hm1 : Hid (More w w1) := (((More.refl _).alloc _ _).alloc _ _).trans m1
 clear hg m1
 have HN : Hid True := trivial
 go_wp2
 obtain ⟨W, HW⟩ : ∃ W : World, Hid (W = w1.alloc (.cells #[.int .i64 a, .int .i64 b, .int .i64 c] 3)) := ⟨_, rfl⟩
 have Hm1W : Hid (More w1 W) := HW.out ▸ (More.refl _).alloc _ _
 have Hm : Hid (More w W) := Hm1.out.trans Hm1W.out
 have Hf : Hid (∀ j, j < 3 → W.cell? ⟨w1.heap.size, j, none⟩ = some (.int .i64 (tri a b c j))) := by rw [HW.out]; exact tri_cells (by go_simp) (by go_simp) (by go_simp)
 have Hg' : Hid (∀ j, j < 3 → W.cell? ⟨g, j, none⟩ = some (.int .i64 (tri 1 0 0 j))) := fun j hj => Hm1W.out.cell (Hg.out j hj)
 clear Hg
 replace c0 := Hm1W.out.cell c0
 replace c1 := Hm1W.out.cell c1
 replace d0 := Hm1W.out.cell d0
 replace d1 := Hm1W.out.cell d1
 replace d2 := Hm1W.out.cell d2
 replace d3 := Hm1W.out.cell d3
 replace d4 := Hm1W.out.cell d4
 go_loopg [11] 3 (fun q i wr => ∃ k : Nat, k + q = 3 ∧ i = .int .i64 k ∧ (∀ j, j < k → Fld regs (tri 1 0 0 j) (tri a b c j)) ∧ wr = W)
 case atStart => exact ⟨0, by omega, rfl, fun j hj => by omega, HW.out.symm⟩
 case round =>
  obtain ⟨k, hkg, rfl, hok, rfl⟩ := hrel
  have Hok : Hid (∀ j, j < k → Fld regs (tri 1 0 0 j) (tri a b c j)) := hok
  clear hok
  cases gk with
  | zero =>
   obtain rfl : k = 3 := by omega
   go_wp2
   go_ret
   exact Says.yes (HP.out.2 ⟨HN.out, Hok.out, trivial⟩) Hm.out
  | succ q =>
   clear d0 d1 d2 d3 d4 c0 c1
   have hk : k < 3 := by omega
   have hk' : (k : Int) < 3 := by omega
   have hk0 : (0 : Int) ≤ (k : Int) := by omega
   have qg := Hg'.out k hk
   have qf := Hf.out k hk
   obtain ⟨x, hx⟩ : ∃ x, tri 1 0 0 k = x := ⟨_, rfl⟩
   obtain ⟨y, hy⟩ : ∃ y, tri a b c k = y := ⟨_, rfl⟩
   rw [hx] at qg
   rw [hy] at qf
   have HX : Hid (tri 1 0 0 k = x ∧ tri a b c k = y) := ⟨hx, hy⟩
   clear hx hy
   have step : Hid (Fld regs x y → ∀ j, j < k + 1 → Fld regs (tri 1 0 0 j) (tri a b c j)) := by
    intro h j hj
    by_cases e : j = k
    ·subst e; rw [HX.out.1, HX.out.2]; exact h
    ·exact Hok.out j (by omega)
   have back : Hid ((∀ j, j < 3 → Fld regs (tri 1 0 0 j) (tri a b c j)) → Fld regs x y) := by
    intro h
    have := h k hk
    rw [HX.out.1, HX.out.2] at this
    exact this
   by_cases hx0 : x = 0
   ·subst hx0
    by_cases hy0 : y = 0
    ·subst hy0
     go_wp2
     go_roundg q
     case measure => omega
     case rel => exact ⟨k + 1, by omega, by first | rfl | simp, step.out ⟨fun _ => rfl, fun h => by simp at h⟩, rfl⟩
    ·have hy1 : (y != 0) = true := by simp [hy0]
     have Hy : Hid (¬ y = 0) := hy0
     clear hy0
     go_wp2
     go_ret
     exact Says.no (fun h => Hy.out ((back.out (HP.out.1 h).2.1).1 rfl)) Hm.out
   by_cases hx1 : x = 1
   ·subst hx1
    clear hx0
    by_cases hy0 : y < 0
    ·have Hy : Hid (y < 0) := hy0
     go_wp2
     go_ret
     exact Says.no (fun h => by have := ((back.out (HP.out.1 h).2.1).2 rfl).1; have := Hy.out; omega) Hm.out
    by_cases hy1 : regs ≤ y
    ·have Hy : Hid (regs ≤ y) := hy1
     go_wp2
     go_ret
     exact Says.no (fun h => by have := ((back.out (HP.out.1 h).2.1).2 rfl).2; have := Hy.out; omega) Hm.out
    have Hy : Hid (Reg regs y) := ⟨by omega, by omega⟩
    go_wp2
    go_roundg q
    case measure => omega
    case rel => exact ⟨k + 1, by omega, by first | rfl | simp, step.out ⟨fun h => by simp at h, fun _ => Hy.out⟩, rfl⟩
   have Hx : Hid (¬ x = 0 ∧ ¬ x = 1) := ⟨hx0, hx1⟩
   have hx2 : (x == 0) = false := by simp [hx0]
   have hx3 : (x == 1) = false := by simp [hx1]
   clear hx0 hx1
   go_wp2
   go_roundg q
   case measure => omega
   case rel => exact ⟨k + 1, by omega, by first | rfl | simp, step.out ⟨fun h => absurd h Hx.out.1, fun h => absurd h Hx.out.2⟩, rfl⟩

set_option maxRecDepth 8000 in
set_option maxHeartbeats 1000000 in
theorem ins_2 (ra : Option Addr) (rl rc : Nat) (ca : Option Addr) (cl cc : Nat) (a b c n regs : Int) (w : World) (P : Prop) (HP : Hid (P ↔ (n = 0 ∧ (∀ j, j < 3 → Fld regs (tri 1 1 0 j) (tri a b c j)) ∧ True))) :
  Calls Try.prog 54 #[.agg #[.slice ra rl rc, .slice ca cl cc], .agg #[.int .i64 2, .int .i64 a, .int .i64 b, .int .i64 c, .int .i64 n], .int .i64 regs] w (Says P w) := by
 go_enter Try.func54, Try.ntmps54
 go_wp2_with (fail)
 refine (shape_2 _).mono ?_
 rintro e w1 ⟨g, rfl, hg, m1⟩
 obtain ⟨⟨c0, c1⟩, d0, d1, d2, d3, d4⟩ := boxes2 m1
 have Hg : Hid (∀ j, j < 3 → w1.cell? ⟨g, j, none⟩ = some (.int .i64 (tri 1 1 0 j))) := hg
 have Hm1 : Hid (More w w1) := (((More.refl _).alloc _ _).alloc _ _).trans m1
 clear hg m1
 by_cases hn0 : n = 0
 rotate_left
 ·have HN : Hid (¬ n = 0) := hn0
  have hn1 : (n != 0) = true := by simp [hn0]
  clear hn0
  go_wp2
  go_ret
  exact Says.no (fun h => HN.out (HP.out.1 h).1) Hm1.out
 have HN : Hid (n = 0) := hn0
 have hn1 : (n != 0) = false := by simp [hn0]
 clear hn0
 go_wp2
 obtain ⟨W, HW⟩ : ∃ W : World, Hid (W = w1.alloc (.cells #[.int .i64 a, .int .i64 b, .int .i64 c] 3)) := ⟨_, rfl⟩
 have Hm1W : Hid (More w1 W) := HW.out ▸ (More.refl _).alloc _ _
 have Hm : Hid (More w W) := Hm1.out.trans Hm1W.out
 have Hf : Hid (∀ j, j < 3 → W.cell? ⟨w1.heap.size, j, none⟩ = some (.int .i64 (tri a b c j))) := by rw [HW.out]; exact tri_cells (by go_simp) (by go_simp) (by go_simp)
 have Hg' : Hid (∀ j, j < 3 → W.cell? ⟨g, j, none⟩ = some (.int .i64 (tri 1 1 0 j))) := fun j hj => Hm1W.out.cell (Hg.out j hj)
 clear Hg
 replace c0 := Hm1W.out.cell c0
 replace c1 := Hm1W.out.cell c1
 replace d0 := Hm1W.out.cell d0
 replace d1 := Hm1W.out.cell d1
 replace d2 := Hm1W.out.cell d2
 replace d3 := Hm1W.out.cell d3
 replace d4 := Hm1W.out.cell d4
 go_loopg [11] 3 (fun q i wr => ∃ k : Nat, k + q = 3 ∧ i = .int .i64 k ∧ (∀ j, j < k → Fld regs (tri 1 1 0 j) (tri a b c j)) ∧ wr = W)
 case atStart => exact ⟨0, by omega, rfl, fun j hj => by omega, HW.out.symm⟩
 case round =>
  obtain ⟨k, hkg, rfl, hok, rfl⟩ := hrel
  have Hok : Hid (∀ j, j < k → Fld regs (tri 1 1 0 j) (tri a b c j)) := hok
  clear hok
  cases gk with
  | zero =>
   obtain rfl : k = 3 := by omega
   go_wp2
   go_ret
   exact Says.yes (HP.out.2 ⟨HN.out, Hok.out, trivial⟩) Hm.out
  | succ q =>
   clear d0 d1 d2 d3 d4 c0 c1
   have hk : k < 3 := by omega
   have hk' : (k : Int) < 3 := by omega
   have hk0 : (0 : Int) ≤ (k : Int) := by omega
   have qg := Hg'.out k hk
   have qf := Hf.out k hk
   obtain ⟨x, hx⟩ : ∃ x, tri 1 1 0 k = x := ⟨_, rfl⟩
   obtain ⟨y, hy⟩ : ∃ y, tri a b c k = y := ⟨_, rfl⟩
   rw [hx] at qg
   rw [hy] at qf
   have HX : Hid (tri 1 1 0 k = x ∧ tri a b c k = y) := ⟨hx, hy⟩
   clear hx hy
   have step : Hid (Fld regs x y → ∀ j, j < k + 1 → Fld regs (tri 1 1 0 j) (tri a b c j)) := by
    intro h j hj
    by_cases e : j = k
    ·subst e; rw [HX.out.1, HX.out.2]; exact h
    ·exact Hok.out j (by omega)
   have back : Hid ((∀ j, j < 3 → Fld regs (tri 1 1 0 j) (tri a b c j)) → Fld regs x y) := by
    intro h
    have := h k hk
    rw [HX.out.1, HX.out.2] at this
    exact this
   by_cases hx0 : x = 0
   ·subst hx0
    by_cases hy0 : y = 0
    ·subst hy0
     go_wp2
     go_roundg q
     case measure => omega
     case rel => exact ⟨k + 1, by omega, by first | rfl | simp, step.out ⟨fun _ => rfl, fun h => by simp at h⟩, rfl⟩
    ·have hy1 : (y != 0) = true := by simp [hy0]
     have Hy : Hid (¬ y = 0) := hy0
     clear hy0
     go_wp2
     go_ret
     exact Says.no (fun h => Hy.out ((back.out (HP.out.1 h).2.1).1 rfl)) Hm.out
   by_cases hx1 : x = 1
   ·subst hx1
    clear hx0
    by_cases hy0 : y < 0
    ·have Hy : Hid (y < 0) := hy0
     go_wp2
     go_ret
     exact Says.no (fun h => by have := ((back.out (HP.out.1 h).2.1).2 rfl).1; have := Hy.out; omega) Hm.out
    by_cases hy1 : regs ≤ y
    ·have Hy : Hid (regs ≤ y) := hy1
     go_wp2
     go_ret
     exact Says.no (fun h => by have := ((back.out (HP.out.1 h).2.1).2 rfl).2; have := Hy.out; omega) Hm.out
    have Hy : Hid (Reg regs y) := ⟨by omega, by omega⟩
    go_wp2
    go_roundg q
    case measure => omega
    case rel => exact ⟨k + 1, by omega, by first | rfl | simp, step.out ⟨fun h => by simp at h, fun _ => Hy.out⟩, rfl⟩
   have Hx : Hid (¬ x = 0 ∧ ¬ x = 1) := ⟨hx0, hx1⟩
   have hx2 : (x == 0) = false := by simp [hx0]
   have hx3 : (x == 1) = false := by simp [hx1]
   clear hx0 hx1
   go_wp2
   go_roundg q
   case measure => omega
   case rel => exact ⟨k + 1, by omega, by first | rfl | simp, step.out ⟨fun h => absurd h Hx.out.1, fun h => absurd h Hx.out.2⟩, rfl⟩

set_option maxRecDepth 8000 in
set_option maxHeartbeats 1000000 in
theorem ins_9 (ra : Option Addr) (rl rc : Nat) (ca : Option Addr) (cl cc : Nat) (a b c n regs : Int) (w : World) (P : Prop) (HP : Hid (P ↔ (n = 0 ∧ (∀ j, j < 3 → Fld regs (tri 1 0 0 j) (tri a b c j)) ∧ True))) :
  Calls Try.prog 54 #[.agg #[.slice ra rl rc, .slice ca cl cc], .agg #[.int .i64 9, .int .i64 a, .int .i64 b, .int .i64 c, .int .i64 n], .int .i64 regs] w (Says P w) := by
 go_enter Try.func54, Try.ntmps54
 go_wp2_with (fail)
 refine (shape_9 _).mono ?_
 rintro e w1 ⟨g, rfl, hg, m1⟩
 obtain ⟨⟨c0, c1⟩, d0, d1, d2, d3, d4⟩ := boxes2 m1
 have Hg : Hid (∀ j, j < 3 → w1.cell? ⟨g, j, none⟩ = some (.int .i64 (tri 1 0 0 j))) := hg
 have Hm1 : Hid (More w w1) := (((More.refl _).alloc _ _).alloc _ _).trans m1
 clear hg m1
 by_cases hn0 : n = 0
 rotate_left
 ·have HN : Hid (¬ n = 0) := hn0
  have hn1 : (n != 0) = true := by simp [hn0]
  clear hn0
  go_wp2
  go_ret
  exact Says.no (fun h => HN.out (HP.out.1 h).1) Hm1.out
 have HN : Hid (n = 0) := hn0
 have hn1 : (n != 0) = false := by simp [hn0]
 clear hn0
 go_wp2
 obtain ⟨W, HW⟩ : ∃ W : World, Hid (W = w1.alloc (.cells #[.int .i64 a, .int .i64 b, .int .i64 c] 3)) := ⟨_, rfl⟩
 have Hm1W : Hid (More w1 W) := HW.out ▸ (More.refl _).alloc _ _
 have Hm : Hid (More w W) := Hm1.out.trans Hm1W.out
 have Hf : Hid (∀ j, j < 3 → W.cell? ⟨w1.heap.size, j, none⟩ = some (.int .i64 (tri a b c j))) := by rw [HW.out]; exact tri_cells (by go_simp) (by go_simp) (by go_simp)
 have Hg' : Hid (∀ j, j < 3 → W.cell? ⟨g, j, none⟩ = some (.int .i64 (tri 1 0 0 j))) := fun j hj => Hm1W.out.cell (Hg.out j hj)
 clear Hg
 replace c0 := Hm1W.out.cell c0
 replace c1 := Hm1W.out.cell c1
 replace d0 := Hm1W.out.cell d0
 replace d1 := Hm1W.out.cell d1
 replace d2 := Hm1W.out.cell d2
 replace d3 := Hm1W.out.cell d3
 replace d4 := Hm1W.out.cell d4
 go_loopg [11] 3 (fun q i wr => ∃ k : Nat, k + q = 3 ∧ i = .int .i64 k ∧ (∀ j, j < k → Fld regs (tri 1 0 0 j) (tri a b c j)) ∧ wr = W)
 case atStart => exact ⟨0, by omega, rfl, fun j hj => by omega, HW.out.symm⟩
 case round =>
  obtain ⟨k, hkg, rfl, hok, rfl⟩ := hrel
  have Hok : Hid (∀ j, j < k → Fld regs (tri 1 0 0 j) (tri a b c j)) := hok
  clear hok
  cases gk with
  | zero =>
   obtain rfl : k = 3 := by omega
   go_wp2
   go_ret
   exact Says.yes (HP.out.2 ⟨HN.out, Hok.out, trivial⟩) Hm.out
  | succ q =>
   clear d0 d1 d2 d3 d4 c0 c1
   have hk : k < 3 := by omega
   have hk' : (k : Int) < 3 := by omega
   have hk0 : (0 : Int) ≤ (k : Int) := by omega
   have qg := Hg'.out k hk
   have qf := Hf.out k hk
   obtain ⟨x, hx⟩ : ∃ x, tri 1 0 0 k = x := ⟨_, rfl⟩
   obtain ⟨y, hy⟩ : ∃ y, tri a b c k = y := ⟨_, rfl⟩
   rw [hx] at qg
   rw [hy] at qf
   have HX : Hid (tri 1 0 0 k = x ∧ tri a b c k = y) := ⟨hx, hy⟩
   clear hx hy
   have step : Hid (Fld regs x y → ∀ j, j < k + 1 → Fld regs (tri 1 0 0 j) (tri a b c j)) := by
    intro h j hj
    by_cases e : j = k
    ·subst e; rw [HX.out.1, HX.out.2]; exact h
    ·exact Hok.out j (by omega)
   have back : Hid ((∀ j, j < 3 → Fld regs (tri 1 0 0 j) (tri a b c j)) → Fld regs x y) := by
    intro h
    have := h k hk
    rw [HX.out.1, HX.out.2] at this
    exact this
   by_cases hx0 : x = 0
   ·subst hx0
    by_cases hy0 : y = 0
    ·subst hy0
     go_wp2
     go_roundg q
     case measure => omega
     case rel => exact ⟨k + 1, by omega, by first | rfl | simp, step.out ⟨fun _ => rfl, fun h => by simp at h⟩, rfl⟩
    ·have hy1 : (y != 0) = true := by simp [hy0]
     have Hy : Hid (¬ y = 0) := hy0
     clear hy0
     go_wp2
     go_ret
     exact Says.no (fun h => Hy.out ((back.out (HP.out.1 h).2.1).1 rfl)) Hm.out
   by_cases hx1 : x = 1
   ·subst hx1
    clear hx0
    by_cases hy0 : y < 0
    ·have Hy : Hid (y < 0) := hy0
     go_wp2
     go_ret
     exact Says.no (fun h => by have := ((back.out (HP.out.1 h).2.1).2 rfl).1; have := Hy.out; omega) Hm.out
    by_cases hy1 : regs ≤ y
    ·have Hy : Hid (regs ≤ y) := hy1
     go_wp2
     go_ret
     exact Says.no (fun h => by have := ((back.out (HP.out.1 h).2.1).2 rfl).2; have := Hy.out; omega) Hm.out
    have Hy : Hid (Reg regs y) := ⟨by omega, by omega⟩
    go_wp2
    go_roundg q
    case measure => omega
    case rel => exact ⟨k + 1, by omega, by first | rfl | simp, step.out ⟨fun h => by simp at h, fun _ => Hy.out⟩, rfl⟩
   have Hx : Hid (¬ x = 0 ∧ ¬ x = 1) := ⟨hx0, hx1⟩
   have hx2 : (x == 0) = false := by simp [hx0]
   have hx3 : (x == 1) = false := by simp [hx1]
   clear hx0 hx1
   go_wp2
   go_roundg q
   case measure => omega
   case rel => exact ⟨k + 1, by omega, by first | rfl | simp, step.out ⟨fun h => absurd h Hx.out.1, fun h => absurd h Hx.out.2⟩, rfl⟩
set_option maxRecDepth 8000 in
set_option maxHeartbeats 1000000 in
theorem ins_3 (ra : Option Addr) (rl rc : Nat) (ca : Option Addr) (cl cc : Nat) (a b c n regs : Int) (w : World) (P : Prop) (HP : Hid (P ↔ (True ∧ (∀ j, j < 3 → Fld regs (tri 1 1 2 j) (tri a b c j)) ∧ Rgn rl c))) :
  Calls Try.prog 54 #[.agg #[.slice ra rl rc, .slice ca cl cc], .agg #[.int .i64 3, .int .i64 a, .int .i64 b, .int .i64 c, .int .i64 n], .int .i64 regs] w (Says P w) := by
 go_enter Try.func54, Try.ntmps54
 go_wp2_with (fail)
 refine (shape_3 _).mono ?_
 rintro e w1 ⟨g, rfl, hg, m1⟩
 obtain ⟨⟨c0, c1⟩, d0, d1, d2, d3, d4⟩ := boxes2 m1
 have Hg : Hid (∀ j, j < 3 → w1.cell? ⟨g, j, none⟩ = some (.int .i64 (tri 1 1 2 j))) := hg
 have Hm1 : Hid (More w w1) := (((More.refl _).alloc _ _).alloc _ _).trans m1
 clear hg m1
 have HN : Hid True := trivial
 go_wp2
 obtain ⟨W, HW⟩ : ∃ W : World, Hid (W = w1.alloc (.cells #[.int .i64 a, .int .i64 b, .int .i64 c] 3)) := ⟨_, rfl⟩
 have Hm1W : Hid (More w1 W) := HW.out ▸ (More.refl _).alloc _ _
 have Hm : Hid (More w W) := Hm1.out.trans Hm1W.out
 have Hf : Hid (∀ j, j < 3 → W.cell? ⟨w1.heap.size, j, none⟩ = some (.int .i64 (tri a b c j))) := by rw [HW.out]; exact tri_cells (by go_simp) (by go_simp) (by go_simp)
 have Hg' : Hid (∀ j, j < 3 → W.cell? ⟨g, j, none⟩ = some (.int .i64 (tri 1 1 2 j))) := fun j hj => Hm1W.out.cell (Hg.out j hj)
 clear Hg
 replace c0 := Hm1W.out.cell c0
 replace c1 := Hm1W.out.cell c1
 replace d0 := Hm1W.out.cell d0
 replace d1 := Hm1W.out.cell d1
 replace d2 := Hm1W.out.cell d2
 replace d3 := Hm1W.out.cell d3
 replace d4 := Hm1W.out.cell d4
 go_loopg [11] 3 (fun q i wr => ∃ k : Nat, k + q = 3 ∧ i = .int .i64 k ∧ (∀ j, j < k → Fld regs (tri 1 1 2 j) (tri a b c j)) ∧ wr = W)
 case atStart => exact ⟨0, by omega, rfl, fun j hj => by omega, HW.out.symm⟩
 case round =>
  obtain ⟨k, hkg, rfl, hok, rfl⟩ := hrel
  have Hok : Hid (∀ j, j < k → Fld regs (tri 1 1 2 j) (tri a b c j)) := hok
  clear hok
  cases gk with
  | zero =>
   obtain rfl : k = 3 := by omega
   by_cases t0 : 0 ≤ c
   ·by_cases t1 : c < (rl : Int)
    ·have T : Hid (0 ≤ c ∧ c < (rl : Int)) := ⟨t0, t1⟩
     go_wp2
     go_ret
     exact ⟨_, rfl, ⟨fun _ => HP.out.2 ⟨HN.out, Hok.out, T.out⟩, fun _ => by first | rfl | (simp <;> omega)⟩, Hm.out⟩
    ·have T : Hid (¬ c < (rl : Int)) := t1
     go_wp2
     go_ret
     exact ⟨_, rfl, ⟨fun h => by first | (simp at h; done) | (simp at h; omega), fun h => by have h1 := (HP.out.1 h).2.2; have h2 := T.out; have h3 := h1.2; omega⟩, Hm.out⟩
   ·have T : Hid (¬ 0 ≤ c) := t0
    go_wp2
    go_ret
    exact ⟨_, rfl, ⟨fun h => by first | (simp at h; done) | (simp at h; omega), fun h => by have h1 := (HP.out.1 h).2.2; have h2 := T.out; have h3 := h1.1; omega⟩, Hm.out⟩
  | succ q =>
   clear d0 d1 d2 d3 d4 c0 c1
   have hk : k < 3 := by omega
   have hk' : (k : Int) < 3 := by omega
   have hk0 : (0 : Int) ≤ (k : Int) := by omega
   have qg := Hg'.out k hk
   have qf := Hf.out k hk
   obtain ⟨x, hx⟩ : ∃ x, tri 1 1 2 k = x := ⟨_, rfl⟩
   obtain ⟨y, hy⟩ : ∃ y, tri a b c k = y := ⟨_, rfl⟩
   rw [hx] at qg
   rw [hy] at qf
   have HX : Hid (tri 1 1 2 k = x ∧ tri a b c k = y) := ⟨hx, hy⟩
   clear hx hy
   have step : Hid (Fld regs x y → ∀ j, j < k + 1 → Fld regs (tri 1 1 2 j) (tri a b c j)) := by
    intro h j hj
    by_cases e : j = k
    ·subst e; rw [HX.out.1, HX.out.2]; exact h
    ·exact Hok.out j (by omega)
   have back : Hid ((∀ j, j < 3 → Fld regs (tri 1 1 2 j) (tri a b c j)) → Fld regs x y) := by
    intro h
    have := h k hk
    rw [HX.out.1, HX.out.2] at this
    exact this
   by_cases hx0 : x = 0
   ·subst hx0
    by_cases hy0 : y = 0
    ·subst hy0
     go_wp2
     go_roundg q
     case measure => omega
     case rel => exact ⟨k + 1, by omega, by first | rfl | simp, step.out ⟨fun _ => rfl, fun h => by simp at h⟩, rfl⟩
    ·have hy1 : (y != 0) = true := by simp [hy0]
     have Hy : Hid (¬ y = 0) := hy0
     clear hy0
     go_wp2
     go_ret
     exact Says.no (fun h => Hy.out ((back.out (HP.out.1 h).2.1).1 rfl)) Hm.out
   by_cases hx1 : x = 1
   ·subst hx1
    clear hx0
    by_cases hy0 : y < 0
    ·have Hy : Hid (y < 0) := hy0
     go_wp2
     go_ret
     exact Says.no (fun h => by have := ((back.out (HP.out.1 h).2.1).2 rfl).1; have := Hy.out; omega) Hm.out
    by_cases hy1 : regs ≤ y
    ·have Hy : Hid (regs ≤ y) := hy1
     go_wp2
     go_ret
     exact Says.no (fun h => by have := ((back.out (HP.out.1 h).2.1).2 rfl).2; have := Hy.out; omega) Hm.out
    have Hy : Hid (Reg regs y) := ⟨by omega, by omega⟩
    go_wp2
    go_roundg q
    case measure => omega
    case rel => exact ⟨k + 1, by omega, by first | rfl | simp, step.out ⟨fun h => by simp at h, fun _ => Hy.out⟩, rfl⟩
   have Hx : Hid (¬ x = 0 ∧ ¬ x = 1) := ⟨hx0, hx1⟩
   have hx2 : (x == 0) = false := by simp [hx0]
   have hx3 : (x == 1) = false := by simp [hx1]
   clear hx0 hx1
   go_wp2
   go_roundg q
   case measure => omega
   case rel => exact ⟨k + 1, by omega, by first | rfl | simp, step.out ⟨fun h => absurd h Hx.out.1, fun h => absurd h Hx.out.2⟩, rfl⟩

set_option maxRecDepth 8000 in
set_option maxHeartbeats 1000000 in
theorem ins_4 (ra : Option Addr) (rl rc : Nat) (ca : Option Addr) (cl cc : Nat) (a b c n regs : Int) (w : World) (P : Prop) (HP : Hid (P ↔ (True ∧ (∀ j, j < 3 → Fld regs (tri 1 1 2 j) (tri a b c j)) ∧ Rgn rl c))) :
  Calls Try.prog 54 #[.agg #[.slice ra rl rc, .slice ca cl cc], .agg #[.int .i64 4, .int .i64 a, .int .i64 b, .int .i64 c, .int .i64 n], .int .i64 regs] w (Says P w) := by
 go_enter Try.func54, Try.ntmps54
 go_wp2_with (fail)
 refine (shape_4 _).mono ?_
 rintro e w1 ⟨g, rfl, hg, m1⟩
 obtain ⟨⟨c0, c1⟩, d0, d1, d2, d3, d4⟩ := boxes2 m1
 have Hg : Hid (∀ j, j < 3 → w1.cell? ⟨g, j, none⟩ = some (.int .i64 (tri 1 1 2 j))) := hg
 have Hm1 : Hid (More w w1) := (((More.refl _).alloc _ _).alloc _ _).trans m1
 clear hg m1
 have HN : Hid True := trivial
 go_wp2
 obtain ⟨W, HW⟩ : ∃ W : World, Hid (W = w1.alloc (.cells #[.int .i64 a, .int .i64 b, .int .i64 c] 3)) := ⟨_, rfl⟩
 have Hm1W : Hid (More w1 W) := HW.out ▸ (More.refl _).alloc _ _
 have Hm : Hid (More w W) := Hm1.out.trans Hm1W.out
 have Hf : Hid (∀ j, j < 3 → W.cell? ⟨w1.heap.size, j, none⟩ = some (.int .i64 (tri a b c j))) := by rw [HW.out]; exact tri_cells (by go_simp) (by go_simp) (by go_simp)
 have Hg' : Hid (∀ j, j < 3 → W.cell? ⟨g, j, none⟩ = some (.int .i64 (tri 1 1 2 j))) := fun j hj => Hm1W.out.cell (Hg.out j hj)
 clear Hg
 replace c0 := Hm1W.out.cell c0
 replace c1 := Hm1W.out.cell c1
 replace d0 := Hm1W.out.cell d0
 replace d1 := Hm1W.out.cell d1
 replace d2 := Hm1W.out.cell d2
 replace d3 := Hm1W.out.cell d3
 replace d4 := Hm1W.out.cell d4
 go_loopg [11] 3 (fun q i wr => ∃ k : Nat, k + q = 3 ∧ i = .int .i64 k ∧ (∀ j, j < k → Fld regs (tri 1 1 2 j) (tri a b c j)) ∧ wr = W)
 case atStart => exact ⟨0, by omega, rfl, fun j hj => by omega, HW.out.symm⟩
 case round =>
  obtain ⟨k, hkg, rfl, hok, rfl⟩ := hrel
  have Hok : Hid (∀ j, j < k → Fld regs (tri 1 1 2 j) (tri a b c j)) := hok
  clear hok
  cases gk with
  | zero =>
   obtain rfl : k = 3 := by omega
   by_cases t0 : 0 ≤ c
   ·by_cases t1 : c < (rl : Int)
    ·have T : Hid (0 ≤ c ∧ c < (rl : Int)) := ⟨t0, t1⟩
     go_wp2
     go_ret
     exact ⟨_, rfl, ⟨fun _ => HP.out.2 ⟨HN.out, Hok.out, T.out⟩, fun _ => by first | rfl | (simp <;> omega)⟩, Hm.out⟩
    ·have T : Hid (¬ c < (rl : Int)) := t1
     go_wp2
     go_ret
     exact ⟨_, rfl, ⟨fun h => by first | (simp at h; done) | (simp at h; omega), fun h => by have h1 := (HP.out.1 h).2.2; have h2 := T.out; have h3 := h1.2; omega⟩, Hm.out⟩
   ·have T : Hid (¬ 0 ≤ c) := t0
    go_wp2
    go_ret
    exact ⟨_, rfl, ⟨fun h => by first | (simp at h; done) | (simp at h; omega), fun h => by have h1 := (HP.out.1 h).2.2; have h2 := T.out; have h3 := h1.1; omega⟩, Hm.out⟩
  | succ q =>
   clear d0 d1 d2 d3 d4 c0 c1
   have hk : k < 3 := by omega
   have hk' : (k : Int) < 3 := by omega
   have hk0 : (0 : Int) ≤ (k : Int) := by omega
   have qg := Hg'.out k hk
   have qf := Hf.out k hk
   obtain ⟨x, hx⟩ : ∃ x, tri 1 1 2 k = x := ⟨_, rfl⟩
   obtain ⟨y, hy⟩ : ∃ y, tri a b c k = y := ⟨_, rfl⟩
   rw [hx] at qg
   rw [hy] at qf
   have HX : Hid (tri 1 1 2 k = x ∧ tri a b c k = y) := ⟨hx, hy⟩
   clear hx hy
   have step : Hid (Fld regs x y → ∀ j, j < k + 1 → Fld regs (tri 1 1 2 j) (tri a b c j)) := by
    intro h j hj
    by_cases e : j = k
    ·subst e; rw [HX.out.1, HX.out.2]; exact h
    ·exact Hok.out j (by omega)
   have back : Hid ((∀ j, j < 3 → Fld regs (tri 1 1 2 j) (tri a b c j)) → Fld regs x y) := by
    intro h
    have := h k hk
    rw [HX.out.1, HX.out.2] at this
    exact this
   by_cases hx0 : x = 0
   ·subst hx0
    by_cases hy0 : y = 0
    ·subst hy0
     go_wp2
     go_roundg q
     case measure => omega
     case rel => exact ⟨k + 1, by omega, by first | rfl | simp, step.out ⟨fun _ => rfl, fun h => by simp at h⟩, rfl⟩
    ·have hy1 : (y != 0) = true := by simp [hy0]
     have Hy : Hid (¬ y = 0) := hy0
     clear hy0
     go_wp2
     go_ret
     exact Says.no (fun h => Hy.out ((back.out (HP.out.1 h).2.1).1 rfl)) Hm.out
   by_cases hx1 : x = 1
   ·subst hx1
    clear hx0
    by_cases hy0 : y < 0
    ·have Hy : Hid (y < 0) := hy0
     go_wp2
     go_ret
     exact Says.no (fun h => by have := ((back.out (HP.out.1 h).2.1).2 rfl).1; have := Hy.out; omega) Hm.out
    by_cases hy1 : regs ≤ y
    ·have Hy : Hid (regs ≤ y) := hy1
     go_wp2
     go_ret
     exact Says.no (fun h => by have := ((back.out (HP.out.1 h).2.1).2 rfl).2; have := Hy.out; omega) Hm.out
    have Hy : Hid (Reg regs y) := ⟨by omega, by omega⟩
    go_wp2
    go_roundg q
    case measure => omega
    case rel => exact ⟨k + 1, by omega, by first | rfl | simp, step.out ⟨fun h => by simp at h, fun _ => Hy.out⟩, rfl⟩
   have Hx : Hid (¬ x = 0 ∧ ¬ x = 1) := ⟨hx0, hx1⟩
   have hx2 : (x == 0) = false := by simp [hx0]
   have hx3 : (x == 1) = false := by simp [hx1]
   clear hx0 hx1
   go_wp2
   go_roundg q
   case measure => omega
   case rel => exact ⟨k + 1, by omega, by first | rfl | simp, step.out ⟨fun h => absurd h Hx.out.1, fun h => absurd h Hx.out.2⟩, rfl⟩

set_option maxRecDepth 8000 in
set_option maxHeartbeats 1000000 in
theorem ins_12 (ra : Option Addr) (rl rc : Nat) (ca : Option Addr) (cl cc : Nat) (a b c n regs : Int) (w : World) (P : Prop) (HP : Hid (P ↔ (n = 0 ∧ (∀ j, j < 3 → Fld regs (tri 0 0 0 j) (tri a b c j)) ∧ True))) :
  Calls Try.prog 54 #[.agg #[.slice ra rl rc, .slice ca cl cc], .agg #[.int .i64 12, .int .i64 a, .int .i64 b, .int .i64 c, .int .i64 n], .int .i64 regs] w (Says P w) := by
 go_enter Try.func54, Try.ntmps54
 go_wp2_with (fail)
 refine (shape_12 _).mono ?_
 rintro e w1 ⟨g, rfl, hg, m1⟩
 obtain ⟨⟨c0, c1⟩, d0, d1, d2, d3, d4⟩ := boxes2 m1
 have Hg : Hid (∀ j, j < 3 → w1.cell? ⟨g, j, none⟩ = some (.int .i64 (tri 0 0 0 j))) := hg
 have Hm1 : Hid (More w w1) := (((More.refl _).alloc _ _).alloc _ _).trans m1
 clear hg m1
 by_cases hn0 : n = 0
 rotate_left
 ·have HN : Hid (¬ n = 0) := hn0
  have hn1 : (n != 0) = true := by simp [hn0]
  clear hn0
  go_wp2
  go_ret
  exact Says.no (fun h => HN.out (HP.out.1 h).1) Hm1.out
 have HN : Hid (n = 0) := hn0
 have hn1 : (n != 0) = false := by simp [hn0]
 clear hn0
 go_wp2
 obtain ⟨W, HW⟩ : ∃ W : World, Hid (W = w1.alloc (.cells #[.int .i64 a, .int .i64 b, .int .i64 c] 3)) := ⟨_, rfl⟩
 have Hm1W : Hid (More w1 W) := HW.out ▸ (More.refl _).alloc _ _
 have Hm : Hid (More w W) := Hm1.out.trans Hm1W.out
 have Hf : Hid (∀ j, j < 3 → W.cell? ⟨w1.heap.size, j, none⟩ = some (.int .i64 (tri a b c j))) := by rw [HW.out]; exact tri_cells (by go_simp) (by go_simp) (by go_simp)
 have Hg' : Hid (∀ j, j < 3 → W.cell? ⟨g, j, none⟩ = some (.int .i64 (tri 0 0 0 j))) := fun j hj => Hm1W.out.cell (Hg.out j hj)
 clear Hg
 replace c0 := Hm1W.out.cell c0
 replace c1 := Hm1W.out.cell c1
 replace d0 := Hm1W.out.cell d0
 replace d1 := Hm1W.out.cell d1
 replace d2 := Hm1W.out.cell d2
 replace d3 := Hm1W.out.cell d3
 replace d4 := Hm1W.out.cell d4
 go_loopg [11] 3 (fun q i wr => ∃ k : Nat, k + q = 3 ∧ i = .int .i64 k ∧ (∀ j, j < k → Fld regs (tri 0 0 0 j) (tri a b c j)) ∧ wr = W)
 case atStart => exact ⟨0, by omega, rfl, fun j hj => by omega, HW.out.symm⟩
 case round =>
  obtain ⟨k, hkg, rfl, hok, rfl⟩ := hrel
  have Hok : Hid (∀ j, j < k → Fld regs (tri 0 0 0 j) (tri a b c j)) := hok
  clear hok
  cases gk with
  | zero =>
   obtain rfl : k = 3 := by omega
   go_wp2
   go_ret
   exact Says.yes (HP.out.2 ⟨HN.out, Hok.out, trivial⟩) Hm.out
  | succ q =>
   clear d0 d1 d2 d3 d4 c0 c1
   have hk : k < 3 := by omega
   have hk' : (k : Int) < 3 := by omega
   have hk0 : (0 : Int) ≤ (k : Int) := by omega
   have qg := Hg'.out k hk
   have qf := Hf.out k hk
   obtain ⟨x, hx⟩ : ∃ x, tri 0 0 0 k = x := ⟨_, rfl⟩
   obtain ⟨y, hy⟩ : ∃ y, tri a b c k = y := ⟨_, rfl⟩
   rw [hx] at qg
   rw [hy] at qf
   have HX : Hid (tri 0 0 0 k = x ∧ tri a b c k = y) := ⟨hx, hy⟩
   clear hx hy
   have step : Hid (Fld regs x y → ∀ j, j < k + 1 → Fld regs (tri 0 0 0 j) (tri a b c j)) := by
    intro h j hj
    by_cases e : j = k
    ·subst e; rw [HX.out.1, HX.out.2]; exact h
    ·exact Hok.out j (by omega)
   have back : Hid ((∀ j, j < 3 → Fld regs (tri 0 0 0 j) (tri a b c j)) → Fld regs x y) := by
    intro h
    have := h k hk
    rw [HX.out.1, HX.out.2] at this
    exact this
   by_cases hx0 : x = 0
   ·subst hx0
    by_cases hy0 : y = 0
    ·subst hy0
     go_wp2
     go_roundg q
     case measure => omega
     case rel => exact ⟨k + 1, by omega, by first | rfl | simp, step.out ⟨fun _ => rfl, fun h => by simp at h⟩, rfl⟩
    ·have hy1 : (y != 0) = true := by simp [hy0]
     have Hy : Hid (¬ y = 0) := hy0
     clear hy0
     go_wp2
     go_ret
     exact Says.no (fun h => Hy.out ((back.out (HP.out.1 h).2.1).1 rfl)) Hm.out
   by_cases hx1 : x = 1
   ·subst hx1
    clear hx0
    by_cases hy0 : y < 0
    ·have Hy : Hid (y < 0) := hy0
     go_wp2
     go_ret
     exact Says.no (fun h => by have := ((back.out (HP.out.1 h).2.1).2 rfl).1; have := Hy.out; omega) Hm.out
    by_cases hy1 : regs ≤ y
    ·have Hy : Hid (regs ≤ y) := hy1
     go_wp2
     go_ret
     exact Says.no (fun h => by have := ((back.out (HP.out.1 h).2.1).2 rfl).2; have := Hy.out; omega) Hm.out
    have Hy : Hid (Reg regs y) := ⟨by omega, by omega⟩
    go_wp2
    go_roundg q
    case measure => omega
    case rel => exact ⟨k + 1, by omega, by first | rfl | simp, step.out ⟨fun h => by simp at h, fun _ => Hy.out⟩, rfl⟩
   have Hx : Hid (¬ x = 0 ∧ ¬ x = 1) := ⟨hx0, hx1⟩
   have hx2 : (x == 0) = false := by simp [hx0]
   have hx3 : (x == 1) = false := by simp [hx1]
   clear hx0 hx1
   go_wp2
   go_roundg q
   case measure => omega
   case rel => exact ⟨k + 1, by omega, by first | rfl | simp, step.out ⟨fun h => absurd h Hx.out.1, fun h => absurd h Hx.out.2⟩, rfl⟩
set_option maxRecDepth 8000 in
set_option maxHeartbeats 1000000 in
theorem ins_5 (ra : Option Addr) (rl rc : Nat) (ca : Option Addr) (cl cc : Nat) (a b c n regs : Int) (w : World) (rb ro : Nat) (log : Nat → Int) (sec : Nat → Bool) (hra : 0 < rl → ra = some ⟨rb, ro, none⟩) (hr : RegsAt w rb ro rl log sec) (hok : RegionsOk rl log) (P : Prop) (HP : Hid (P ↔ (True ∧ (∀ j, j < 3 → Fld regs (tri 1 0 2 j) (tri a b c j)) ∧ Rgn rl c ∧ Wrd log c n))) :
  Calls Try.prog 54 #[.agg #[.slice ra rl rc, .slice ca cl cc], .agg #[.int .i64 5, .int .i64 a, .int .i64 b, .int .i64 c, .int .i64 n], .int .i64 regs] w (Says P w) := by
 have Hr : Hid ((0 < rl → ra = some ⟨rb, ro, none⟩) ∧ RegsAt w rb ro rl log sec ∧ RegionsOk rl log) := ⟨hra, hr, hok⟩
 clear hra hr hok
 go_enter Try.func54, Try.ntmps54
 go_wp2_with (fail)
 refine (shape_5 _).mono ?_
 rintro e w1 ⟨g, rfl, hg, m1⟩
 obtain ⟨⟨c0, c1⟩, d0, d1, d2, d3, d4⟩ := boxes2 m1
 have Hg : Hid (∀ j, j < 3 → w1.cell? ⟨g, j, none⟩ = some (.int .i64 (tri 1 0 2 j))) := hg
 have Hm1 : Hid (More w w1) := (((More.refl _).alloc _ _).alloc _ _).trans m1
 clear hg m1
 have HN : Hid True := trivial
 go_wp2
 obtain ⟨W, HW⟩ : ∃ W : World, Hid (W = w1.alloc (.cells #[.int .i64 a, .int .i64 b, .int .i64 c] 3)) := ⟨_, rfl⟩
 have Hm1W : Hid (More w1 W) := HW.out ▸ (More.refl _).alloc _ _
 have Hm : Hid (More w W) := Hm1.out.trans Hm1W.out
 have Hf : Hid (∀ j, j < 3 → W.cell? ⟨w1.heap.size, j, none⟩ = some (.int .i64 (tri a b c j))) := by rw [HW.out]; exact tri_cells (by go_simp) (by go_simp) (by go_simp)
 have Hg' : Hid (∀ j, j < 3 → W.cell? ⟨g, j, none⟩ = some (.int .i64 (tri 1 0 2 j))) := fun j hj => Hm1W.out.cell (Hg.out j hj)
 clear Hg
 replace c0 := Hm1W.out.cell c0
 replace c1 := Hm1W.out.cell c1
 replace d0 := Hm1W.out.cell d0
 replace d1 := Hm1W.out.cell d1
 replace d2 := Hm1W.out.cell d2
 replace d3 := Hm1W.out.cell d3
 replace d4 := Hm1W.out.cell d4
 go_loopg [11] 3 (fun q i wr => ∃ k : Nat, k + q = 3 ∧ i = .int .i64 k ∧ (∀ j, j < k → Fld regs (tri 1 0 2 j) (tri a b c j)) ∧ wr = W)
 case atStart => exact ⟨0, by omega, rfl, fun j hj => by omega, HW.out.symm⟩
 case round =>
  obtain ⟨k, hkg, rfl, hok, rfl⟩ := hrel
  have Hok : Hid (∀ j, j < k → Fld regs (tri 1 0 2 j) (tri a b c j)) := hok
  clear hok
  cases gk with
  | zero =>
   obtain rfl : k = 3 := by omega
   by_cases t0 : c < 0
   ·have T : Hid (c < 0) := t0
    go_wp2
    go_ret
    exact ⟨_, rfl, ⟨fun h => by first | (simp at h; done) | (simp at h; omega), fun h => by have h1 := (HP.out.1 h).2.2; have h2 := T.out; have h3 := h1.1.1; omega⟩, Hm.out⟩
   by_cases t1 : (rl : Int) ≤ c
   ·have T : Hid ((rl : Int) ≤ c) := t1
    go_wp2
    go_ret
    exact ⟨_, rfl, ⟨fun h => by first | (simp at h; done) | (simp at h; omega), fun h => by have h1 := (HP.out.1 h).2.2; have h2 := T.out; have h3 := h1.1.2; omega⟩, Hm.out⟩
   have hk : c.toNat < rl := by omega
   have t0' : 0 ≤ c := by omega
   have t1' : c < (rl : Int) := by omega
   have Hrgn : Hid (Rgn rl c) := ⟨t0', t1'⟩
   obtain rfl := Hr.out.1 (by omega)
   have q0 := ((Hr.out.2.1.more Hm.out) c.toNat hk).1
   have q1 := ((Hr.out.2.1.more Hm.out) c.toNat hk).2
   have Hlog : Hid (0 ≤ log c.toNat ∧ log c.toNat ≤ 6) := Hr.out.2.2.2 c.toNat hk
   obtain ⟨lk, hlk⟩ : ∃ x, log c.toNat = x := ⟨_, rfl⟩
   rw [hlk] at q0 Hlog
   have Hlk : Hid (log c.toNat = lk) := hlk
   clear hlk
   go_wp2_with (fail)
   obtain ⟨nw, hnw⟩ : ∃ x, wordsI lk = x := ⟨_, rfl⟩
   refine ((ref_words lk Hlog.out.1 Hlog.out.2 (sec c.toNat) _)).mono ?_
   rw [hnw]
   have Hnw : Hid (Wrd log c n ↔ (0 ≤ n ∧ n < nw)) := by unfold Wrd; rw [Hlk.out, ← hnw]; exact Iff.rfl
   clear hnw q0 q1
   rintro e w5 ⟨rfl, m5⟩
   have d4' := m5.cell d4
   clear d4 d3 d2 d1 d0 c0 c1
   have Hm5 : Hid (More w w5) := Hm.out.trans m5
   clear m5
   by_cases t2 : 0 ≤ n
   ·by_cases t3 : n < nw
    ·have T : Hid (Wrd log c n) := Hnw.out.2 ⟨t2, t3⟩
     go_wp2
     go_ret
     exact ⟨_, rfl, ⟨fun _ => HP.out.2 ⟨HN.out, Hok.out, Hrgn.out, T.out⟩, fun _ => by first | rfl | (simp <;> omega)⟩, Hm5.out⟩
    ·have T : Hid (nw ≤ n) := (by omega : nw ≤ n)
     go_wp2
     go_ret
     exact ⟨_, rfl, ⟨fun h => by first | (simp at h; done) | (simp at h; omega), fun h => by have h1 := (HP.out.1 h).2.2; have h2 := T.out; have h3 := (Hnw.out.1 h1.2).2; omega⟩, Hm5.out⟩
   ·have T : Hid (n < 0) := (by omega : n < 0)
    go_wp2
    go_ret
    exact ⟨_, rfl, ⟨fun h => by first | (simp at h; done) | (simp at h; omega), fun h => by have h1 := (HP.out.1 h).2.2; have h2 := T.out; have h3 := (Hnw.out.1 h1.2).1; omega⟩, Hm5.out⟩
  | succ q =>
   clear d0 d1 d2 d3 d4 c0 c1
   have hk : k < 3 := by omega
   have hk' : (k : Int) < 3 := by omega
   have hk0 : (0 : Int) ≤ (k : Int) := by omega
   have qg := Hg'.out k hk
   have qf := Hf.out k hk
   obtain ⟨x, hx⟩ : ∃ x, tri 1 0 2 k = x := ⟨_, rfl⟩
   obtain ⟨y, hy⟩ : ∃ y, tri a b c k = y := ⟨_, rfl⟩
   rw [hx] at qg
   rw [hy] at qf
   have HX : Hid (tri 1 0 2 k = x ∧ tri a b c k = y) := ⟨hx, hy⟩
   clear hx hy
   have step : Hid (Fld regs x y → ∀ j, j < k + 1 → Fld regs (tri 1 0 2 j) (tri a b c j)) := by
    intro h j hj
    by_cases e : j = k
    ·subst e; rw [HX.out.1, HX.out.2]; exact h
    ·exact Hok.out j (by omega)
   have back : Hid ((∀ j, j < 3 → Fld regs (tri 1 0 2 j) (tri a b c j)) → Fld regs x y) := by
    intro h
    have := h k hk
    rw [HX.out.1, HX.out.2] at this
    exact this
   by_cases hx0 : x = 0
   ·subst hx0
    by_cases hy0 : y = 0
    ·subst hy0
     go_wp2
     go_roundg q
     case measure => omega
     case rel => exact ⟨k + 1, by omega, by first | rfl | simp, step.out ⟨fun _ => rfl, fun h => by simp at h⟩, rfl⟩
    ·have hy1 : (y != 0) = true := by simp [hy0]
     have Hy : Hid (¬ y = 0) := hy0
     clear hy0
     go_wp2
     go_ret
     exact Says.no (fun h => Hy.out ((back.out (HP.out.1 h).2.1).1 rfl)) Hm.out
   by_cases hx1 : x = 1
   ·subst hx1
    clear hx0
    by_cases hy0 : y < 0
    ·have Hy : Hid (y < 0) := hy0
     go_wp2
     go_ret
     exact Says.no (fun h => by have := ((back.out (HP.out.1 h).2.1).2 rfl).1; have := Hy.out; omega) Hm.out
    by_cases hy1 : regs ≤ y
    ·have Hy : Hid (regs ≤ y) := hy1
     go_wp2
     go_ret
     exact Says.no (fun h => by have := ((back.out (HP.out.1 h).2.1).2 rfl).2; have := Hy.out; omega) Hm.out
    have Hy : Hid (Reg regs y) := ⟨by omega, by omega⟩
    go_wp2
    go_roundg q
    case measure => omega
    case rel => exact ⟨k + 1, by omega, by first | rfl | simp, step.out ⟨fun h => by simp at h, fun _ => Hy.out⟩, rfl⟩
   have Hx : Hid (¬ x = 0 ∧ ¬ x = 1) := ⟨hx0, hx1⟩
   have hx2 : (x == 0) = false := by simp [hx0]
   have hx3 : (x == 1) = false := by simp [hx1]
   clear hx0 hx1
   go_wp2
   go_roundg q
   case measure => omega
   case rel => exact ⟨k + 1, by omega, by first | rfl | simp, step.out ⟨fun h => absurd h Hx.out.1, fun h => absurd h Hx.out.2⟩, rfl⟩

set_option maxRecDepth 8000 in
set_option maxHeartbeats 1000000 in
theorem ins_6 (ra : Option Addr) (rl rc : Nat) (ca : Option Addr) (cl cc : Nat) (a b c n regs : Int) (w : World) (rb ro : Nat) (log : Nat → Int) (sec : Nat → Bool) (hra : 0 < rl → ra = some ⟨rb, ro, none⟩) (hr : RegsAt w rb ro rl log sec) (hok : RegionsOk rl log) (P : Prop) (HP : Hid (P ↔ (True ∧ (∀ j, j < 3 → Fld regs (tri 1 0 2 j) (tri a b c j)) ∧ Rgn rl c ∧ Wrd log c n))) :
  Calls Try.prog 54 #[.agg #[.slice ra rl rc, .slice ca cl cc], .agg #[.int .i64 6, .int .i64 a, .int .i64 b, .int .i64 c, .int .i64 n], .int .i64 regs] w (Says P w) := by
 have Hr : Hid ((0 < rl → ra = some ⟨rb, ro, none⟩) ∧ RegsAt w rb ro rl log sec ∧ RegionsOk rl log) := ⟨hra, hr, hok⟩
 clear hra hr hok
 go_enter Try.func54, Try.ntmps54
 go_wp2_with (fail)
 refine (shape_6 _).mono ?_
 rintro e w1 ⟨g, rfl, hg, m1⟩
 obtain ⟨⟨c0, c1⟩, d0, d1, d2, d3, d4⟩ := boxes2 m1
 have Hg : Hid (∀ j, j < 3 → w1.cell? ⟨g, j, none⟩ = some (.int .i64 (tri 1 0 2 j))) := hg
 have Hm1 : Hid (More w w1) := (((More.refl _).alloc _ _).alloc _ _).trans m1
 clear hg m1
 have HN : Hid True := trivial
 go_wp2
 obtain ⟨W, HW⟩ : ∃ W : World, Hid (W = w1.alloc (.cells #[.int .i64 a, .int .i64 b, .int .i64 c] 3)) := ⟨_, rfl⟩
 have Hm1W : Hid (More w1 W) := HW.out ▸ (More.refl _).alloc _ _
 have Hm : Hid (More w W) := Hm1.out.trans Hm1W.out
 have Hf : Hid (∀ j, j < 3 → W.cell? ⟨w1.heap.size, j, none⟩ = some (.int .i64 (tri a b c j))) := by rw [HW.out]; exact tri_cells (by go_simp) (by go_simp) (by go_simp)
 have Hg' : Hid (∀ j, j < 3 → W.cell? ⟨g, j, none⟩ = some (.int .i64 (tri 1 0 2 j))) := fun j hj => Hm1W.out.cell (Hg.out j hj)
 clear Hg
 replace c0 := Hm1W.out.cell c0
 replace c1 := Hm1W.out.cell c1
 replace d0 := Hm1W.out.cell d0
 replace d1 := Hm1W.out.cell d1
 replace d2 := Hm1W.out.cell d2
 replace d3 := Hm1W.out.cell d3
 replace d4 := Hm1W.out.cell d4
 go_loopg [11] 3 (fun q i wr => ∃ k : Nat, k + q = 3 ∧ i = .int .i64 k ∧ (∀ j, j < k → Fld regs (tri 1 0 2 j) (tri a b c j)) ∧ wr = W)
 case atStart => exact ⟨0, by omega, rfl, fun j hj => by omega, HW.out.symm⟩
 case round =>
  obtain ⟨k, hkg, rfl, hok, rfl⟩ := hrel
  have Hok : Hid (∀ j, j < k → Fld regs (tri 1 0 2 j) (tri a b c j)) := hok
  clear hok
  cases gk with
  | zero =>
   obtain rfl : k = 3 := by omega
   by_cases t0 : c < 0
   ·have T : Hid (c < 0) := t0
    go_wp2
    go_ret
    exact ⟨_, rfl, ⟨fun h => by first | (simp at h; done) | (simp at h; omega), fun h => by have h1 := (HP.out.1 h).2.2; have h2 := T.out; have h3 := h1.1.1; omega⟩, Hm.out⟩
   by_cases t1 : (rl : Int) ≤ c
   ·have T : Hid ((rl : Int) ≤ c) := t1
    go_wp2
    go_ret
    exact ⟨_, rfl, ⟨fun h => by first | (simp at h; done) | (simp at h; omega), fun h => by have h1 := (HP.out.1 h).2.2; have h2 := T.out; have h3 := h1.1.2; omega⟩, Hm.out⟩
   have hk : c.toNat < rl := by omega
   have t0' : 0 ≤ c := by omega
   have t1' : c < (rl : Int) := by omega
   have Hrgn : Hid (Rgn rl c) := ⟨t0', t1'⟩
   obtain rfl := Hr.out.1 (by omega)
   have q0 := ((Hr.out.2.1.more Hm.out) c.toNat hk).1
   have q1 := ((Hr.out.2.1.more Hm.out) c.toNat hk).2
   have Hlog : Hid (0 ≤ log c.toNat ∧ log c.toNat ≤ 6) := Hr.out.2.2.2 c.toNat hk
   obtain ⟨lk, hlk⟩ : ∃ x, log c.toNat = x := ⟨_, rfl⟩
   rw [hlk] at q0 Hlog
   have Hlk : Hid (log c.toNat = lk) := hlk
   clear hlk
   go_wp2_with (fail)
   obtain ⟨nw, hnw⟩ : ∃ x, wordsI lk = x := ⟨_, rfl⟩
   refine ((ref_words lk Hlog.out.1 Hlog.out.2 (sec c.toNat) _)).mono ?_
   rw [hnw]
   have Hnw : Hid (Wrd log c n ↔ (0 ≤ n ∧ n < nw)) := by unfold Wrd; rw [Hlk.out, ← hnw]; exact Iff.rfl
   clear hnw q0 q1
   rintro e w5 ⟨rfl, m5⟩
   have d4' := m5.cell d4
   clear d4 d3 d2 d1 d0 c0 c1
   have Hm5 : Hid (More w w5) := Hm.out.trans m5
   clear m5
   by_cases t2 : 0 ≤ n
   ·by_cases t3 : n < nw
    ·have T : Hid (Wrd log c n) := Hnw.out.2 ⟨t2, t3⟩
     go_wp2
     go_ret
     exact ⟨_, rfl, ⟨fun _ => HP.out.2 ⟨HN.out, Hok.out, Hrgn.out, T.out⟩, fun _ => by first | rfl | (simp <;> omega)⟩, Hm5.out⟩
    ·have T : Hid (nw ≤ n) := (by omega : nw ≤ n)
     go_wp2
     go_ret
     exact ⟨_, rfl, ⟨fun h => by first | (simp at h; done) | (simp at h; omega), fun h => by have h1 := (HP.out.1 h).2.2; have h2 := T.out; have h3 := (Hnw.out.1 h1.2).2; omega⟩, Hm5.out⟩
   ·have T : Hid (n < 0) := (by omega : n < 0)
    go_wp2
    go_ret
    exact ⟨_, rfl, ⟨fun h => by first | (simp at h; done) | (simp at h; omega), fun h => by have h1 := (HP.out.1 h).2.2; have h2 := T.out; have h3 := (Hnw.out.1 h1.2).1; omega⟩, Hm5.out⟩
  | succ q =>
   clear d0 d1 d2 d3 d4 c0 c1
   have hk : k < 3 := by omega
   have hk' : (k : Int) < 3 := by omega
   have hk0 : (0 : Int) ≤ (k : Int) := by omega
   have qg := Hg'.out k hk
   have qf := Hf.out k hk
   obtain ⟨x, hx⟩ : ∃ x, tri 1 0 2 k = x := ⟨_, rfl⟩
   obtain ⟨y, hy⟩ : ∃ y, tri a b c k = y := ⟨_, rfl⟩
   rw [hx] at qg
   rw [hy] at qf
   have HX : Hid (tri 1 0 2 k = x ∧ tri a b c k = y) := ⟨hx, hy⟩
   clear hx hy
   have step : Hid (Fld regs x y → ∀ j, j < k + 1 → Fld regs (tri 1 0 2 j) (tri a b c j)) := by
    intro h j hj
    by_cases e : j = k
    ·subst e; rw [HX.out.1, HX.out.2]; exact h
    ·exact Hok.out j (by omega)
   have back : Hid ((∀ j, j < 3 → Fld regs (tri 1 0 2 j) (tri a b c j)) → Fld regs x y) := by
    intro h
    have := h k hk
    rw [HX.out.1, HX.out.2] at this
    exact this
   by_cases hx0 : x = 0
   ·subst hx0
    by_cases hy0 : y = 0
    ·subst hy0
     go_wp2
     go_roundg q
     case measure => omega
     case rel => exact ⟨k + 1, by omega, by first | rfl | simp, step.out ⟨fun _ => rfl, fun h => by simp at h⟩, rfl⟩
    ·have hy1 : (y != 0) = true := by simp [hy0]
     have Hy : Hid (¬ y = 0) := hy0
     clear hy0
     go_wp2
     go_ret
     exact Says.no (fun h => Hy.out ((back.out (HP.out.1 h).2.1).1 rfl)) Hm.out
   by_cases hx1 : x = 1
   ·subst hx1
    clear hx0
    by_cases hy0 : y < 0
    ·have Hy : Hid (y < 0) := hy0
     go_wp2
     go_ret
     exact Says.no (fun h => by have := ((back.out (HP.out.1 h).2.1).2 rfl).1; have := Hy.out; omega) Hm.out
    by_cases hy1 : regs ≤ y
    ·have Hy : Hid (regs ≤ y) := hy1
     go_wp2
     go_ret
     exact Says.no (fun h => by have := ((back.out (HP.out.1 h).2.1).2 rfl).2; have := Hy.out; omega) Hm.out
    have Hy : Hid (Reg regs y) := ⟨by omega, by omega⟩
    go_wp2
    go_roundg q
    case measure => omega
    case rel => exact ⟨k + 1, by omega, by first | rfl | simp, step.out ⟨fun h => by simp at h, fun _ => Hy.out⟩, rfl⟩
   have Hx : Hid (¬ x = 0 ∧ ¬ x = 1) := ⟨hx0, hx1⟩
   have hx2 : (x == 0) = false := by simp [hx0]
   have hx3 : (x == 1) = false := by simp [hx1]
   clear hx0 hx1
   go_wp2
   go_roundg q
   case measure => omega
   case rel => exact ⟨k + 1, by omega, by first | rfl | simp, step.out ⟨fun h => absurd h Hx.out.1, fun h => absurd h Hx.out.2⟩, rfl⟩

set_option maxRecDepth 8000 in
set_option maxHeartbeats 1000000 in
theorem ins_7 (ra : Option Addr) (rl rc : Nat) (ca : Option Addr) (cl cc : Nat) (a b c n regs : Int) (w : World) (P : Prop) (HP : Hid (P ↔ (True ∧ (∀ j, j < 3 → Fld regs (tri 0 0 0 j) (tri a b c j)) ∧ Plc cl n))) :
  Calls Try.prog 54 #[.agg #[.slice ra rl rc, .slice ca cl cc], .agg #[.int .i64 7, .int .i64 a, .int .i64 b, .int .i64 c, .int .i64 n], .int .i64 regs] w (Says P w) := by
 go_enter Try.func54, Try.ntmps54
 go_wp2_with (fail)
 refine (shape_7 _).mono ?_
 rintro e w1 ⟨g, rfl, hg, m1⟩
 obtain ⟨⟨c0, c1⟩, d0, d1, d2, d3, d4⟩ := boxes2 m1
 have Hg : Hid (∀ j, j < 3 → w1.cell? ⟨g, j, none⟩ = some (.int .i64 (tri 0 0 0 j))) := hg
 have Hm1 : Hid (More w w1) := (((More.refl _).alloc _ _).alloc _ _).trans m1
 clear hg m1
 have HN : Hid True := trivial
 go_wp2
 obtain ⟨W, HW⟩ : ∃ W : World, Hid (W = w1.alloc (.cells #[.int .i64 a, .int .i64 b, .int .i64 c] 3)) := ⟨_, rfl⟩
 have Hm1W : Hid (More w1 W) := HW.out ▸ (More.refl _).alloc _ _
 have Hm : Hid (More w W) := Hm1.out.trans Hm1W.out
 have Hf : Hid (∀ j, j < 3 → W.cell? ⟨w1.heap.size, j, none⟩ = some (.int .i64 (tri a b c j))) := by rw [HW.out]; exact tri_cells (by go_simp) (by go_simp) (by go_simp)
 have Hg' : Hid (∀ j, j < 3 → W.cell? ⟨g, j, none⟩ = some (.int .i64 (tri 0 0 0 j))) := fun j hj => Hm1W.out.cell (Hg.out j hj)
 clear Hg
 replace c0 := Hm1W.out.cell c0
 replace c1 := Hm1W.out.cell c1
 replace d0 := Hm1W.out.cell d0
 replace d1 := Hm1W.out.cell d1
 replace d2 := Hm1W.out.cell d2
 replace d3 := Hm1W.out.cell d3
 replace d4 := Hm1W.out.cell d4
 go_loopg [11] 3 (fun q i wr => ∃ k : Nat, k + q = 3 ∧ i = .int .i64 k ∧ (∀ j, j < k → Fld regs (tri 0 0 0 j) (tri a b c j)) ∧ wr = W)
 case atStart => exact ⟨0, by omega, rfl, fun j hj => by omega, HW.out.symm⟩
 case round =>
  obtain ⟨k, hkg, rfl, hok, rfl⟩ := hrel
  have Hok : Hid (∀ j, j < k → Fld regs (tri 0 0 0 j) (tri a b c j)) := hok
  clear hok
  cases gk with
  | zero =>
   obtain rfl : k = 3 := by omega
   by_cases t0 : 0 ≤ n
   ·by_cases t1 : n < (cl : Int)
    ·have T : Hid (0 ≤ n ∧ n < (cl : Int)) := ⟨t0, t1⟩
     go_wp2
     go_ret
     exact ⟨_, rfl, ⟨fun _ => HP.out.2 ⟨HN.out, Hok.out, T.out⟩, fun _ => by first | rfl | (simp <;> omega)⟩, Hm.out⟩
    ·have T : Hid (¬ n < (cl : Int)) := t1
     go_wp2
     go_ret
     exact ⟨_, rfl, ⟨fun h => by first | (simp at h; done) | (simp at h; omega), fun h => by have h1 := (HP.out.1 h).2.2; have h2 := T.out; have h3 := h1.2; omega⟩, Hm.out⟩
   ·have T : Hid (¬ 0 ≤ n) := t0
    go_wp2
    go_ret
    exact ⟨_, rfl, ⟨fun h => by first | (simp at h; done) | (simp at h; omega), fun h => by have h1 := (HP.out.1 h).2.2; have h2 := T.out; have h3 := h1.1; omega⟩, Hm.out⟩
  | succ q =>
   clear d0 d1 d2 d3 d4 c0 c1
   have hk : k < 3 := by omega
   have hk' : (k : Int) < 3 := by omega
   have hk0 : (0 : Int) ≤ (k : Int) := by omega
   have qg := Hg'.out k hk
   have qf := Hf.out k hk
   obtain ⟨x, hx⟩ : ∃ x, tri 0 0 0 k = x := ⟨_, rfl⟩
   obtain ⟨y, hy⟩ : ∃ y, tri a b c k = y := ⟨_, rfl⟩
   rw [hx] at qg
   rw [hy] at qf
   have HX : Hid (tri 0 0 0 k = x ∧ tri a b c k = y) := ⟨hx, hy⟩
   clear hx hy
   have step : Hid (Fld regs x y → ∀ j, j < k + 1 → Fld regs (tri 0 0 0 j) (tri a b c j)) := by
    intro h j hj
    by_cases e : j = k
    ·subst e; rw [HX.out.1, HX.out.2]; exact h
    ·exact Hok.out j (by omega)
   have back : Hid ((∀ j, j < 3 → Fld regs (tri 0 0 0 j) (tri a b c j)) → Fld regs x y) := by
    intro h
    have := h k hk
    rw [HX.out.1, HX.out.2] at this
    exact this
   by_cases hx0 : x = 0
   ·subst hx0
    by_cases hy0 : y = 0
    ·subst hy0
     go_wp2
     go_roundg q
     case measure => omega
     case rel => exact ⟨k + 1, by omega, by first | rfl | simp, step.out ⟨fun _ => rfl, fun h => by simp at h⟩, rfl⟩
    ·have hy1 : (y != 0) = true := by simp [hy0]
     have Hy : Hid (¬ y = 0) := hy0
     clear hy0
     go_wp2
     go_ret
     exact Says.no (fun h => Hy.out ((back.out (HP.out.1 h).2.1).1 rfl)) Hm.out
   by_cases hx1 : x = 1
   ·subst hx1
    clear hx0
    by_cases hy0 : y < 0
    ·have Hy : Hid (y < 0) := hy0
     go_wp2
     go_ret
     exact Says.no (fun h => by have := ((back.out (HP.out.1 h).2.1).2 rfl).1; have := Hy.out; omega) Hm.out
    by_cases hy1 : regs ≤ y
    ·have Hy : Hid (regs ≤ y) := hy1
     go_wp2
     go_ret
     exact Says.no (fun h => by have := ((back.out (HP.out.1 h).2.1).2 rfl).2; have := Hy.out; omega) Hm.out
    have Hy : Hid (Reg regs y) := ⟨by omega, by omega⟩
    go_wp2
    go_roundg q
    case measure => omega
    case rel => exact ⟨k + 1, by omega, by first | rfl | simp, step.out ⟨fun h => by simp at h, fun _ => Hy.out⟩, rfl⟩
   have Hx : Hid (¬ x = 0 ∧ ¬ x = 1) := ⟨hx0, hx1⟩
   have hx2 : (x == 0) = false := by simp [hx0]
   have hx3 : (x == 1) = false := by simp [hx1]
   clear hx0 hx1
   go_wp2
   go_roundg q
   case measure => omega
   case rel => exact ⟨k + 1, by omega, by first | rfl | simp, step.out ⟨fun h => absurd h Hx.out.1, fun h => absurd h Hx.out.2⟩, rfl⟩
end
end Go.Proofs.Ytlbfbjeilfcjeaa
