/-
  The texts FieldsK, Named, FieldsAll, Code, Fits, NewAux, Step, one behind the other.
-/
import Derived.Test.YtbfhchhggkpbdaaJoined1
import Derived.Test.YtbfhchhggkpbdaaJoined0
import Derived.Test.YtbfhchhggkpbdaaRows
import Derived.WalkKit
import Derived.Deep.LoopGhost
import Derived.Laws.IdiomCopy

/-
  What layout's fieldsAllowed comes to at ILoadK and IPutK, whose statement leaves its order open.
-/
namespace Go.Proofs.Ytbfhchhggkpbdaa
open Go.RowKit

set_option maxHeartbeats 1000000 in
theorem fields_5_noreg (ra : Option Addr) (rl rc : Nat) (ca : Option Addr) (cl cc : Nat) (code regs : Int) (a b c n : Int) (w : World)
    (creg : ∀ (g cp : Nat) (w : World), w.cell? ⟨g, 0, none⟩ = some (.int .i64 a) → Calls Try.prog 100 #[.agg #[.slice ra rl rc, .slice ca cl cc, .int .i64 code, .int .i64 regs], .slice (some ⟨g, 0, none⟩) 1 cp] w fun e w' => e = .returned (.bool false) ∧ More w w') :
    Calls Try.prog 90 #[.agg #[.slice ra rl rc, .slice ca cl cc, .int .i64 code, .int .i64 regs], .agg #[.int .i64 5, .int .i64 a, .int .i64 b, .int .i64 c, .int .i64 n]] w fun e w' => e = .returned (.bool false) ∧ More w w' := by
  have Hcreg : Hid (∀ (g cp : Nat) (w : World), w.cell? ⟨g, 0, none⟩ = some (.int .i64 a) → Calls Try.prog 100 #[.agg #[.slice ra rl rc, .slice ca cl cc, .int .i64 code, .int .i64 regs], .slice (some ⟨g, 0, none⟩) 1 cp] w fun e w' => e = .returned (.bool false) ∧ More w w') := creg
  clear creg
  obtain ⟨W, HW⟩ : ∃ W : World, Hid (W = ((w.alloc (.cells #[.slice ra rl rc, .slice ca cl cc, .int .i64 code, .int .i64 regs] 63)).alloc (.cells #[.int .i64 5, .int .i64 a, .int .i64 b, .int .i64 c, .int .i64 n] 34))) := ⟨_, rfl⟩
  have Hw : Hid (More w W) := HW.out ▸ (((More.refl _).alloc _ _).alloc _ _)
  obtain ⟨S, HS⟩ : ∃ S : World → Prop, Hid (∀ w', S w' ↔ More W w') := ⟨fun w' => More W w', fun _ => Iff.rfl⟩
  have k00 : ∀ i : { w' // S w' }, i.val.cell? ⟨w.heap.size, 0, none⟩ = some (.slice ra rl rc) := fun i => ((HS.out _).1 i.property).cell (by rw [HW.out]; go_simp)
  have k01 : ∀ i : { w' // S w' }, i.val.cell? ⟨w.heap.size, 1, none⟩ = some (.slice ca cl cc) := fun i => ((HS.out _).1 i.property).cell (by rw [HW.out]; go_simp)
  have k02 : ∀ i : { w' // S w' }, i.val.cell? ⟨w.heap.size, 2, none⟩ = some (.int .i64 code) := fun i => ((HS.out _).1 i.property).cell (by rw [HW.out]; go_simp)
  have k03 : ∀ i : { w' // S w' }, i.val.cell? ⟨w.heap.size, 3, none⟩ = some (.int .i64 regs) := fun i => ((HS.out _).1 i.property).cell (by rw [HW.out]; go_simp)
  have k11 : ∀ i : { w' // S w' }, i.val.cell? ⟨w.heap.size + 1, 1, none⟩ = some (.int .i64 a) := fun i => ((HS.out _).1 i.property).cell (by rw [HW.out]; go_simp)
  have k13 : ∀ i : { w' // S w' }, i.val.cell? ⟨w.heap.size + 1, 3, none⟩ = some (.int .i64 c) := fun i => ((HS.out _).1 i.property).cell (by rw [HW.out]; go_simp)
  have k14 : ∀ i : { w' // S w' }, i.val.cell? ⟨w.heap.size + 1, 4, none⟩ = some (.int .i64 n) := fun i => ((HS.out _).1 i.property).cell (by rw [HW.out]; go_simp)
  have hne : Nonempty { w' // S w' } := ⟨⟨W, (HS.out _).2 (More.refl _)⟩⟩
  go_enter Try.func90, Try.ntmps90
  go_wp2_with (fail)
  refine wp_region_ord (S := S) [(0, true), (1, true), (2, true), (3, false), (4, false), (5, true), (6, true), (7, true), (8, true), (9, false), (10, true), (11, true), (12, true), (13, true), (14, true), (15, true), (16, true), (17, true), (18, true), (19, true), (20, true), (21, false), (22, false), (23, true), (24, true)] (by kernel_rfl) (by kernel_rfl) (by kernel_rfl) ((HS.out _).2 (HW.out ▸ (More.refl _).drew)) ?_
  iterate 3 (refine wpOrd_take rfl (by kernel_rfl) (fun K hK => ?_); go_simp; refine hK _ _ ?_; clear hK K)
  refine wpOrd_busy rfl (by kernel_rfl) (fun K hK => ?_); go_simp; refine hK _ _ ((HS.out _).2 (HW.out ▸ (by repeat (first | exact More.refl _ | apply More.drew | apply More.alloc)))) ?_; clear hK K
  refine wpOrd_busy rfl (by kernel_rfl) (fun K hK => ?_); go_simp
  refine (Hcreg.out _ _ _ (by go_simp)).mono ?_
  rintro e w1 ⟨rfl, m1⟩
  go_simp
  have Hm1 : Hid (More W w1) := HW.out ▸ More.trans (by repeat (first | exact More.refl _ | apply More.drew | apply More.alloc)) m1
  clear m1
  refine hK _ _ ((HS.out _).2 Hm1.out) ?_; clear hK K
  refine wpOrd_move rfl rfl (by kernel_rfl) (fun K hK => ?_); go_simp; refine hK _ _ ?_; clear hK K
  iterate 4 (refine wpOrd_skip rfl ((HS.out _).2 Hm1.out) (by kernel_rfl) (by kernel_rfl) ?_)
  refine wpOrd_pickF rfl rfl (by kernel_rfl) rfl (fun K hK => ?_); go_simp; refine hK _ _ ?_; clear hK K
  refine wpOrd_move rfl rfl (by kernel_rfl) (fun K hK => ?_); go_simp; refine hK _ _ ?_; clear hK K
  iterate 11 (refine wpOrd_skip rfl ((HS.out _).2 Hm1.out) (by kernel_rfl) (by kernel_rfl) ?_)
  refine wpOrd_pickF rfl rfl (by kernel_rfl) rfl (fun K hK => ?_); go_simp; refine hK _ _ ?_; clear hK K
  refine wpOrd_assign rfl rfl (by kernel_rfl) (fun K hK => ?_); go_simp; refine hK _ _ ?_; clear hK K
  refine wpOrd_done ?_
  go_wp2
  go_ret
  exact ⟨rfl, Hw.out.trans Hm1.out⟩

set_option maxHeartbeats 1000000 in
theorem fields_5_norgn (ra : Option Addr) (rl rc : Nat) (ca : Option Addr) (cl cc : Nat) (code regs : Int) (a b c n : Int) (w : World)
    (creg : ∀ (g cp : Nat) (w : World), w.cell? ⟨g, 0, none⟩ = some (.int .i64 a) → Calls Try.prog 100 #[.agg #[.slice ra rl rc, .slice ca cl cc, .int .i64 code, .int .i64 regs], .slice (some ⟨g, 0, none⟩) 1 cp] w fun e w' => e = .returned (.bool true) ∧ More w w')
    (crgn : ∀ (w : World), Calls Try.prog 101 #[.agg #[.slice ra rl rc, .slice ca cl cc, .int .i64 code, .int .i64 regs], .int .i64 c] w fun e w' => e = .returned (.bool false) ∧ More w w') :
    Calls Try.prog 90 #[.agg #[.slice ra rl rc, .slice ca cl cc, .int .i64 code, .int .i64 regs], .agg #[.int .i64 5, .int .i64 a, .int .i64 b, .int .i64 c, .int .i64 n]] w fun e w' => e = .returned (.bool false) ∧ More w w' := by
  have Hcreg : Hid (∀ (g cp : Nat) (w : World), w.cell? ⟨g, 0, none⟩ = some (.int .i64 a) → Calls Try.prog 100 #[.agg #[.slice ra rl rc, .slice ca cl cc, .int .i64 code, .int .i64 regs], .slice (some ⟨g, 0, none⟩) 1 cp] w fun e w' => e = .returned (.bool true) ∧ More w w') := creg
  clear creg
  have Hcrgn : Hid (∀ (w : World), Calls Try.prog 101 #[.agg #[.slice ra rl rc, .slice ca cl cc, .int .i64 code, .int .i64 regs], .int .i64 c] w fun e w' => e = .returned (.bool false) ∧ More w w') := crgn
  clear crgn
  obtain ⟨W, HW⟩ : ∃ W : World, Hid (W = ((w.alloc (.cells #[.slice ra rl rc, .slice ca cl cc, .int .i64 code, .int .i64 regs] 63)).alloc (.cells #[.int .i64 5, .int .i64 a, .int .i64 b, .int .i64 c, .int .i64 n] 34))) := ⟨_, rfl⟩
  have Hw : Hid (More w W) := HW.out ▸ (((More.refl _).alloc _ _).alloc _ _)
  obtain ⟨S, HS⟩ : ∃ S : World → Prop, Hid (∀ w', S w' ↔ More W w') := ⟨fun w' => More W w', fun _ => Iff.rfl⟩
  have k00 : ∀ i : { w' // S w' }, i.val.cell? ⟨w.heap.size, 0, none⟩ = some (.slice ra rl rc) := fun i => ((HS.out _).1 i.property).cell (by rw [HW.out]; go_simp)
  have k01 : ∀ i : { w' // S w' }, i.val.cell? ⟨w.heap.size, 1, none⟩ = some (.slice ca cl cc) := fun i => ((HS.out _).1 i.property).cell (by rw [HW.out]; go_simp)
  have k02 : ∀ i : { w' // S w' }, i.val.cell? ⟨w.heap.size, 2, none⟩ = some (.int .i64 code) := fun i => ((HS.out _).1 i.property).cell (by rw [HW.out]; go_simp)
  have k03 : ∀ i : { w' // S w' }, i.val.cell? ⟨w.heap.size, 3, none⟩ = some (.int .i64 regs) := fun i => ((HS.out _).1 i.property).cell (by rw [HW.out]; go_simp)
  have k11 : ∀ i : { w' // S w' }, i.val.cell? ⟨w.heap.size + 1, 1, none⟩ = some (.int .i64 a) := fun i => ((HS.out _).1 i.property).cell (by rw [HW.out]; go_simp)
  have k13 : ∀ i : { w' // S w' }, i.val.cell? ⟨w.heap.size + 1, 3, none⟩ = some (.int .i64 c) := fun i => ((HS.out _).1 i.property).cell (by rw [HW.out]; go_simp)
  have k14 : ∀ i : { w' // S w' }, i.val.cell? ⟨w.heap.size + 1, 4, none⟩ = some (.int .i64 n) := fun i => ((HS.out _).1 i.property).cell (by rw [HW.out]; go_simp)
  have hne : Nonempty { w' // S w' } := ⟨⟨W, (HS.out _).2 (More.refl _)⟩⟩
  go_enter Try.func90, Try.ntmps90
  go_wp2_with (fail)
  refine wp_region_ord (S := S) [(0, true), (1, true), (2, true), (3, false), (4, false), (5, true), (6, true), (7, true), (8, true), (9, false), (10, true), (11, true), (12, true), (13, true), (14, true), (15, true), (16, true), (17, true), (18, true), (19, true), (20, true), (21, false), (22, false), (23, true), (24, true)] (by kernel_rfl) (by kernel_rfl) (by kernel_rfl) ((HS.out _).2 (HW.out ▸ (More.refl _).drew)) ?_
  iterate 3 (refine wpOrd_take rfl (by kernel_rfl) (fun K hK => ?_); go_simp; refine hK _ _ ?_; clear hK K)
  refine wpOrd_busy rfl (by kernel_rfl) (fun K hK => ?_); go_simp; refine hK _ _ ((HS.out _).2 (HW.out ▸ (by repeat (first | exact More.refl _ | apply More.drew | apply More.alloc)))) ?_; clear hK K
  refine wpOrd_busy rfl (by kernel_rfl) (fun K hK => ?_); go_simp
  refine (Hcreg.out _ _ _ (by go_simp)).mono ?_
  rintro e w1 ⟨rfl, m1⟩
  go_simp
  have Hm1 : Hid (More W w1) := HW.out ▸ More.trans (by repeat (first | exact More.refl _ | apply More.drew | apply More.alloc)) m1
  clear m1
  refine hK _ _ ((HS.out _).2 Hm1.out) ?_; clear hK K
  refine wpOrd_move rfl rfl (by kernel_rfl) (fun K hK => ?_); go_simp; refine hK _ _ ?_; clear hK K
  iterate 3 (refine wpOrd_take rfl (by kernel_rfl) (fun K hK => ?_); go_simp; refine hK _ _ ?_; clear hK K)
  refine wpOrd_busy rfl (by kernel_rfl) (fun K hK => ?_); go_simp
  refine (Hcrgn.out _).mono ?_
  rintro e w2 ⟨rfl, m2⟩
  go_simp
  have Hm2 : Hid (More W w2) := Hm1.out.trans m2
  clear m2
  refine hK _ _ ((HS.out _).2 Hm2.out) ?_; clear hK K
  refine wpOrd_pickT rfl rfl (by kernel_rfl) rfl (fun K hK => ?_); go_simp; refine hK _ _ ?_; clear hK K
  refine wpOrd_move rfl rfl (by kernel_rfl) (fun K hK => ?_); go_simp; refine hK _ _ ?_; clear hK K
  iterate 11 (refine wpOrd_skip rfl ((HS.out _).2 Hm2.out) (by kernel_rfl) (by kernel_rfl) ?_)
  refine wpOrd_pickF rfl rfl (by kernel_rfl) rfl (fun K hK => ?_); go_simp; refine hK _ _ ?_; clear hK K
  refine wpOrd_assign rfl rfl (by kernel_rfl) (fun K hK => ?_); go_simp; refine hK _ _ ?_; clear hK K
  refine wpOrd_done ?_
  go_wp2
  go_ret
  exact ⟨rfl, Hw.out.trans Hm2.out⟩

set_option maxHeartbeats 1000000 in
theorem fields_5_all (rb ro : Nat) (rl rc : Nat) (ca : Option Addr) (cl cc : Nat) (code regs : Int) (a b c n : Int) (l nw : Int) (s : Bool) (w : World) (h0 : 0 ≤ c) (h1 : c < (rl : Int))
    (hr0 : w.cell? ⟨rb, ro + c.toNat * 2, none⟩ = some (.int .i64 l)) (hr1 : w.cell? ⟨rb, ro + c.toNat * 2 + 1, none⟩ = some (.bool s))
    (creg : ∀ (g cp : Nat) (w : World), w.cell? ⟨g, 0, none⟩ = some (.int .i64 a) → Calls Try.prog 100 #[.agg #[.slice (some ⟨rb, ro, none⟩) rl rc, .slice ca cl cc, .int .i64 code, .int .i64 regs], .slice (some ⟨g, 0, none⟩) 1 cp] w fun e w' => e = .returned (.bool true) ∧ More w w')
    (crgn : ∀ (w : World), Calls Try.prog 101 #[.agg #[.slice (some ⟨rb, ro, none⟩) rl rc, .slice ca cl cc, .int .i64 code, .int .i64 regs], .int .i64 c] w fun e w' => e = .returned (.bool true) ∧ More w w')
    (cwrd : ∀ (w : World), Calls Try.prog 41 #[.agg #[.int .i64 l, .bool s]] w fun e w' => e = .returned (.int .i64 nw) ∧ More w w') :
    Calls Try.prog 90 #[.agg #[.slice (some ⟨rb, ro, none⟩) rl rc, .slice ca cl cc, .int .i64 code, .int .i64 regs], .agg #[.int .i64 5, .int .i64 a, .int .i64 b, .int .i64 c, .int .i64 n]] w (Says (Blw n nw) w) := by
  have Hcreg : Hid (∀ (g cp : Nat) (w : World), w.cell? ⟨g, 0, none⟩ = some (.int .i64 a) → Calls Try.prog 100 #[.agg #[.slice (some ⟨rb, ro, none⟩) rl rc, .slice ca cl cc, .int .i64 code, .int .i64 regs], .slice (some ⟨g, 0, none⟩) 1 cp] w fun e w' => e = .returned (.bool true) ∧ More w w') := creg
  clear creg
  have Hcrgn : Hid (∀ (w : World), Calls Try.prog 101 #[.agg #[.slice (some ⟨rb, ro, none⟩) rl rc, .slice ca cl cc, .int .i64 code, .int .i64 regs], .int .i64 c] w fun e w' => e = .returned (.bool true) ∧ More w w') := crgn
  clear crgn
  have Hcwrd : Hid (∀ (w : World), Calls Try.prog 41 #[.agg #[.int .i64 l, .bool s]] w fun e w' => e = .returned (.int .i64 nw) ∧ More w w') := cwrd
  clear cwrd
  obtain ⟨W, HW⟩ : ∃ W : World, Hid (W = ((w.alloc (.cells #[.slice (some ⟨rb, ro, none⟩) rl rc, .slice ca cl cc, .int .i64 code, .int .i64 regs] 63)).alloc (.cells #[.int .i64 5, .int .i64 a, .int .i64 b, .int .i64 c, .int .i64 n] 34))) := ⟨_, rfl⟩
  have Hw : Hid (More w W) := HW.out ▸ (((More.refl _).alloc _ _).alloc _ _)
  obtain ⟨S, HS⟩ : ∃ S : World → Prop, Hid (∀ w', S w' ↔ More W w') := ⟨fun w' => More W w', fun _ => Iff.rfl⟩
  have k00 : ∀ i : { w' // S w' }, i.val.cell? ⟨w.heap.size, 0, none⟩ = some (.slice (some ⟨rb, ro, none⟩) rl rc) := fun i => ((HS.out _).1 i.property).cell (by rw [HW.out]; go_simp)
  have k01 : ∀ i : { w' // S w' }, i.val.cell? ⟨w.heap.size, 1, none⟩ = some (.slice ca cl cc) := fun i => ((HS.out _).1 i.property).cell (by rw [HW.out]; go_simp)
  have k02 : ∀ i : { w' // S w' }, i.val.cell? ⟨w.heap.size, 2, none⟩ = some (.int .i64 code) := fun i => ((HS.out _).1 i.property).cell (by rw [HW.out]; go_simp)
  have k03 : ∀ i : { w' // S w' }, i.val.cell? ⟨w.heap.size, 3, none⟩ = some (.int .i64 regs) := fun i => ((HS.out _).1 i.property).cell (by rw [HW.out]; go_simp)
  have k11 : ∀ i : { w' // S w' }, i.val.cell? ⟨w.heap.size + 1, 1, none⟩ = some (.int .i64 a) := fun i => ((HS.out _).1 i.property).cell (by rw [HW.out]; go_simp)
  have k13 : ∀ i : { w' // S w' }, i.val.cell? ⟨w.heap.size + 1, 3, none⟩ = some (.int .i64 c) := fun i => ((HS.out _).1 i.property).cell (by rw [HW.out]; go_simp)
  have k14 : ∀ i : { w' // S w' }, i.val.cell? ⟨w.heap.size + 1, 4, none⟩ = some (.int .i64 n) := fun i => ((HS.out _).1 i.property).cell (by rw [HW.out]; go_simp)
  have kr0 : ∀ i : { w' // S w' }, i.val.cell? ⟨rb, ro + c.toNat * 2, none⟩ = some (.int .i64 l) := fun i => ((HS.out _).1 i.property).cell (Hw.out.cell hr0)
  have kr1 : ∀ i : { w' // S w' }, i.val.cell? ⟨rb, ro + c.toNat * 2 + 1, none⟩ = some (.bool s) := fun i => ((HS.out _).1 i.property).cell (Hw.out.cell hr1)
  have hne : Nonempty { w' // S w' } := ⟨⟨W, (HS.out _).2 (More.refl _)⟩⟩
  clear hr0 hr1
  go_enter Try.func90, Try.ntmps90
  go_wp2_with (fail)
  refine wp_region_ord (S := S) [(0, true), (1, true), (2, true), (3, false), (4, false), (5, true), (6, true), (7, true), (8, true), (9, false), (10, true), (11, true), (12, true), (13, true), (14, true), (15, true), (16, true), (17, true), (18, true), (19, true), (20, true), (21, false), (22, false), (23, true), (24, true)] (by kernel_rfl) (by kernel_rfl) (by kernel_rfl) ((HS.out _).2 (HW.out ▸ (More.refl _).drew)) ?_
  iterate 3 (refine wpOrd_take rfl (by kernel_rfl) (fun K hK => ?_); go_simp; refine hK _ _ ?_; clear hK K)
  refine wpOrd_busy rfl (by kernel_rfl) (fun K hK => ?_); go_simp; refine hK _ _ ((HS.out _).2 (HW.out ▸ (by repeat (first | exact More.refl _ | apply More.drew | apply More.alloc)))) ?_; clear hK K
  refine wpOrd_busy rfl (by kernel_rfl) (fun K hK => ?_); go_simp
  refine (Hcreg.out _ _ _ (by go_simp)).mono ?_
  rintro e w1 ⟨rfl, m1⟩
  go_simp
  have Hm1 : Hid (More W w1) := HW.out ▸ More.trans (by repeat (first | exact More.refl _ | apply More.drew | apply More.alloc)) m1
  clear m1
  refine hK _ _ ((HS.out _).2 Hm1.out) ?_; clear hK K
  refine wpOrd_move rfl rfl (by kernel_rfl) (fun K hK => ?_); go_simp; refine hK _ _ ?_; clear hK K
  iterate 3 (refine wpOrd_take rfl (by kernel_rfl) (fun K hK => ?_); go_simp; refine hK _ _ ?_; clear hK K)
  refine wpOrd_busy rfl (by kernel_rfl) (fun K hK => ?_); go_simp
  refine (Hcrgn.out _).mono ?_
  rintro e w2 ⟨rfl, m2⟩
  go_simp
  have Hm2 : Hid (More W w2) := Hm1.out.trans m2
  clear m2
  refine hK _ _ ((HS.out _).2 Hm2.out) ?_; clear hK K
  refine wpOrd_pickT rfl rfl (by kernel_rfl) rfl (fun K hK => ?_); go_simp; refine hK _ _ ?_; clear hK K
  refine wpOrd_move rfl rfl (by kernel_rfl) (fun K hK => ?_); go_simp; refine hK _ _ ?_; clear hK K
  iterate 9 (refine wpOrd_take rfl (by kernel_rfl) (fun K hK => ?_); go_simp; refine hK _ _ ?_; clear hK K)
  refine wpOrd_busy rfl (by kernel_rfl) (fun K hK => ?_); go_simp
  refine (Hcwrd.out _).mono ?_
  rintro e w3 ⟨rfl, m3⟩
  go_simp
  have Hm3 : Hid (More W w3) := Hm2.out.trans m3
  clear m3
  refine hK _ _ ((HS.out _).2 Hm3.out) ?_; clear hK K
  refine wpOrd_busy rfl (by kernel_rfl) (fun K hK => ?_); go_simp
  refine (lay_below_calls n nw _).mono ?_
  rintro e w4 ⟨r, rfl, hr, m4⟩
  have Hr : Hid (r = true ↔ Blw n nw) := hr
  clear hr
  go_simp
  have Hm4 : Hid (More W w4) := Hm3.out.trans m4
  clear m4
  refine hK _ _ ((HS.out _).2 Hm4.out) ?_; clear hK K
  refine wpOrd_pickT rfl rfl (by kernel_rfl) rfl (fun K hK => ?_); go_simp; refine hK _ _ ?_; clear hK K
  refine wpOrd_assign rfl rfl (by kernel_rfl) (fun K hK => ?_); go_simp; refine hK _ _ ?_; clear hK K
  refine wpOrd_done ?_
  go_wp2
  go_ret
  exact ⟨r, rfl, Hr.out, Hw.out.trans Hm4.out⟩

set_option maxHeartbeats 1000000 in
theorem fields_6_noreg (ra : Option Addr) (rl rc : Nat) (ca : Option Addr) (cl cc : Nat) (code regs : Int) (a b c n : Int) (w : World)
    (creg : ∀ (g cp : Nat) (w : World), w.cell? ⟨g, 0, none⟩ = some (.int .i64 a) → Calls Try.prog 100 #[.agg #[.slice ra rl rc, .slice ca cl cc, .int .i64 code, .int .i64 regs], .slice (some ⟨g, 0, none⟩) 1 cp] w fun e w' => e = .returned (.bool false) ∧ More w w') :
    Calls Try.prog 90 #[.agg #[.slice ra rl rc, .slice ca cl cc, .int .i64 code, .int .i64 regs], .agg #[.int .i64 6, .int .i64 a, .int .i64 b, .int .i64 c, .int .i64 n]] w fun e w' => e = .returned (.bool false) ∧ More w w' := by
  have Hcreg : Hid (∀ (g cp : Nat) (w : World), w.cell? ⟨g, 0, none⟩ = some (.int .i64 a) → Calls Try.prog 100 #[.agg #[.slice ra rl rc, .slice ca cl cc, .int .i64 code, .int .i64 regs], .slice (some ⟨g, 0, none⟩) 1 cp] w fun e w' => e = .returned (.bool false) ∧ More w w') := creg
  clear creg
  obtain ⟨W, HW⟩ : ∃ W : World, Hid (W = ((w.alloc (.cells #[.slice ra rl rc, .slice ca cl cc, .int .i64 code, .int .i64 regs] 63)).alloc (.cells #[.int .i64 6, .int .i64 a, .int .i64 b, .int .i64 c, .int .i64 n] 34))) := ⟨_, rfl⟩
  have Hw : Hid (More w W) := HW.out ▸ (((More.refl _).alloc _ _).alloc _ _)
  obtain ⟨S, HS⟩ : ∃ S : World → Prop, Hid (∀ w', S w' ↔ More W w') := ⟨fun w' => More W w', fun _ => Iff.rfl⟩
  have k00 : ∀ i : { w' // S w' }, i.val.cell? ⟨w.heap.size, 0, none⟩ = some (.slice ra rl rc) := fun i => ((HS.out _).1 i.property).cell (by rw [HW.out]; go_simp)
  have k01 : ∀ i : { w' // S w' }, i.val.cell? ⟨w.heap.size, 1, none⟩ = some (.slice ca cl cc) := fun i => ((HS.out _).1 i.property).cell (by rw [HW.out]; go_simp)
  have k02 : ∀ i : { w' // S w' }, i.val.cell? ⟨w.heap.size, 2, none⟩ = some (.int .i64 code) := fun i => ((HS.out _).1 i.property).cell (by rw [HW.out]; go_simp)
  have k03 : ∀ i : { w' // S w' }, i.val.cell? ⟨w.heap.size, 3, none⟩ = some (.int .i64 regs) := fun i => ((HS.out _).1 i.property).cell (by rw [HW.out]; go_simp)
  have k11 : ∀ i : { w' // S w' }, i.val.cell? ⟨w.heap.size + 1, 1, none⟩ = some (.int .i64 a) := fun i => ((HS.out _).1 i.property).cell (by rw [HW.out]; go_simp)
  have k13 : ∀ i : { w' // S w' }, i.val.cell? ⟨w.heap.size + 1, 3, none⟩ = some (.int .i64 c) := fun i => ((HS.out _).1 i.property).cell (by rw [HW.out]; go_simp)
  have k14 : ∀ i : { w' // S w' }, i.val.cell? ⟨w.heap.size + 1, 4, none⟩ = some (.int .i64 n) := fun i => ((HS.out _).1 i.property).cell (by rw [HW.out]; go_simp)
  have hne : Nonempty { w' // S w' } := ⟨⟨W, (HS.out _).2 (More.refl _)⟩⟩
  go_enter Try.func90, Try.ntmps90
  go_wp2_with (fail)
  refine wp_region_ord (S := S) [(0, true), (1, true), (2, true), (3, false), (4, false), (5, true), (6, true), (7, true), (8, true), (9, false), (10, true), (11, true), (12, true), (13, true), (14, true), (15, true), (16, true), (17, true), (18, true), (19, true), (20, true), (21, false), (22, false), (23, true), (24, true)] (by kernel_rfl) (by kernel_rfl) (by kernel_rfl) ((HS.out _).2 (HW.out ▸ (More.refl _).drew)) ?_
  iterate 3 (refine wpOrd_take rfl (by kernel_rfl) (fun K hK => ?_); go_simp; refine hK _ _ ?_; clear hK K)
  refine wpOrd_busy rfl (by kernel_rfl) (fun K hK => ?_); go_simp; refine hK _ _ ((HS.out _).2 (HW.out ▸ (by repeat (first | exact More.refl _ | apply More.drew | apply More.alloc)))) ?_; clear hK K
  refine wpOrd_busy rfl (by kernel_rfl) (fun K hK => ?_); go_simp
  refine (Hcreg.out _ _ _ (by go_simp)).mono ?_
  rintro e w1 ⟨rfl, m1⟩
  go_simp
  have Hm1 : Hid (More W w1) := HW.out ▸ More.trans (by repeat (first | exact More.refl _ | apply More.drew | apply More.alloc)) m1
  clear m1
  refine hK _ _ ((HS.out _).2 Hm1.out) ?_; clear hK K
  refine wpOrd_move rfl rfl (by kernel_rfl) (fun K hK => ?_); go_simp; refine hK _ _ ?_; clear hK K
  iterate 4 (refine wpOrd_skip rfl ((HS.out _).2 Hm1.out) (by kernel_rfl) (by kernel_rfl) ?_)
  refine wpOrd_pickF rfl rfl (by kernel_rfl) rfl (fun K hK => ?_); go_simp; refine hK _ _ ?_; clear hK K
  refine wpOrd_move rfl rfl (by kernel_rfl) (fun K hK => ?_); go_simp; refine hK _ _ ?_; clear hK K
  iterate 11 (refine wpOrd_skip rfl ((HS.out _).2 Hm1.out) (by kernel_rfl) (by kernel_rfl) ?_)
  refine wpOrd_pickF rfl rfl (by kernel_rfl) rfl (fun K hK => ?_); go_simp; refine hK _ _ ?_; clear hK K
  refine wpOrd_assign rfl rfl (by kernel_rfl) (fun K hK => ?_); go_simp; refine hK _ _ ?_; clear hK K
  refine wpOrd_done ?_
  go_wp2
  go_ret
  exact ⟨rfl, Hw.out.trans Hm1.out⟩

set_option maxHeartbeats 1000000 in
theorem fields_6_norgn (ra : Option Addr) (rl rc : Nat) (ca : Option Addr) (cl cc : Nat) (code regs : Int) (a b c n : Int) (w : World)
    (creg : ∀ (g cp : Nat) (w : World), w.cell? ⟨g, 0, none⟩ = some (.int .i64 a) → Calls Try.prog 100 #[.agg #[.slice ra rl rc, .slice ca cl cc, .int .i64 code, .int .i64 regs], .slice (some ⟨g, 0, none⟩) 1 cp] w fun e w' => e = .returned (.bool true) ∧ More w w')
    (crgn : ∀ (w : World), Calls Try.prog 101 #[.agg #[.slice ra rl rc, .slice ca cl cc, .int .i64 code, .int .i64 regs], .int .i64 c] w fun e w' => e = .returned (.bool false) ∧ More w w') :
    Calls Try.prog 90 #[.agg #[.slice ra rl rc, .slice ca cl cc, .int .i64 code, .int .i64 regs], .agg #[.int .i64 6, .int .i64 a, .int .i64 b, .int .i64 c, .int .i64 n]] w fun e w' => e = .returned (.bool false) ∧ More w w' := by
  have Hcreg : Hid (∀ (g cp : Nat) (w : World), w.cell? ⟨g, 0, none⟩ = some (.int .i64 a) → Calls Try.prog 100 #[.agg #[.slice ra rl rc, .slice ca cl cc, .int .i64 code, .int .i64 regs], .slice (some ⟨g, 0, none⟩) 1 cp] w fun e w' => e = .returned (.bool true) ∧ More w w') := creg
  clear creg
  have Hcrgn : Hid (∀ (w : World), Calls Try.prog 101 #[.agg #[.slice ra rl rc, .slice ca cl cc, .int .i64 code, .int .i64 regs], .int .i64 c] w fun e w' => e = .returned (.bool false) ∧ More w w') := crgn
  clear crgn
  obtain ⟨W, HW⟩ : ∃ W : World, Hid (W = ((w.alloc (.cells #[.slice ra rl rc, .slice ca cl cc, .int .i64 code, .int .i64 regs] 63)).alloc (.cells #[.int .i64 6, .int .i64 a, .int .i64 b, .int .i64 c, .int .i64 n] 34))) := ⟨_, rfl⟩
  have Hw : Hid (More w W) := HW.out ▸ (((More.refl _).alloc _ _).alloc _ _)
  obtain ⟨S, HS⟩ : ∃ S : World → Prop, Hid (∀ w', S w' ↔ More W w') := ⟨fun w' => More W w', fun _ => Iff.rfl⟩
  have k00 : ∀ i : { w' // S w' }, i.val.cell? ⟨w.heap.size, 0, none⟩ = some (.slice ra rl rc) := fun i => ((HS.out _).1 i.property).cell (by rw [HW.out]; go_simp)
  have k01 : ∀ i : { w' // S w' }, i.val.cell? ⟨w.heap.size, 1, none⟩ = some (.slice ca cl cc) := fun i => ((HS.out _).1 i.property).cell (by rw [HW.out]; go_simp)
  have k02 : ∀ i : { w' // S w' }, i.val.cell? ⟨w.heap.size, 2, none⟩ = some (.int .i64 code) := fun i => ((HS.out _).1 i.property).cell (by rw [HW.out]; go_simp)
  have k03 : ∀ i : { w' // S w' }, i.val.cell? ⟨w.heap.size, 3, none⟩ = some (.int .i64 regs) := fun i => ((HS.out _).1 i.property).cell (by rw [HW.out]; go_simp)
  have k11 : ∀ i : { w' // S w' }, i.val.cell? ⟨w.heap.size + 1, 1, none⟩ = some (.int .i64 a) := fun i => ((HS.out _).1 i.property).cell (by rw [HW.out]; go_simp)
  have k13 : ∀ i : { w' // S w' }, i.val.cell? ⟨w.heap.size + 1, 3, none⟩ = some (.int .i64 c) := fun i => ((HS.out _).1 i.property).cell (by rw [HW.out]; go_simp)
  have k14 : ∀ i : { w' // S w' }, i.val.cell? ⟨w.heap.size + 1, 4, none⟩ = some (.int .i64 n) := fun i => ((HS.out _).1 i.property).cell (by rw [HW.out]; go_simp)
  have hne : Nonempty { w' // S w' } := ⟨⟨W, (HS.out _).2 (More.refl _)⟩⟩
  go_enter Try.func90, Try.ntmps90
  go_wp2_with (fail)
  refine wp_region_ord (S := S) [(0, true), (1, true), (2, true), (3, false), (4, false), (5, true), (6, true), (7, true), (8, true), (9, false), (10, true), (11, true), (12, true), (13, true), (14, true), (15, true), (16, true), (17, true), (18, true), (19, true), (20, true), (21, false), (22, false), (23, true), (24, true)] (by kernel_rfl) (by kernel_rfl) (by kernel_rfl) ((HS.out _).2 (HW.out ▸ (More.refl _).drew)) ?_
  iterate 3 (refine wpOrd_take rfl (by kernel_rfl) (fun K hK => ?_); go_simp; refine hK _ _ ?_; clear hK K)
  refine wpOrd_busy rfl (by kernel_rfl) (fun K hK => ?_); go_simp; refine hK _ _ ((HS.out _).2 (HW.out ▸ (by repeat (first | exact More.refl _ | apply More.drew | apply More.alloc)))) ?_; clear hK K
  refine wpOrd_busy rfl (by kernel_rfl) (fun K hK => ?_); go_simp
  refine (Hcreg.out _ _ _ (by go_simp)).mono ?_
  rintro e w1 ⟨rfl, m1⟩
  go_simp
  have Hm1 : Hid (More W w1) := HW.out ▸ More.trans (by repeat (first | exact More.refl _ | apply More.drew | apply More.alloc)) m1
  clear m1
  refine hK _ _ ((HS.out _).2 Hm1.out) ?_; clear hK K
  refine wpOrd_move rfl rfl (by kernel_rfl) (fun K hK => ?_); go_simp; refine hK _ _ ?_; clear hK K
  iterate 3 (refine wpOrd_take rfl (by kernel_rfl) (fun K hK => ?_); go_simp; refine hK _ _ ?_; clear hK K)
  refine wpOrd_busy rfl (by kernel_rfl) (fun K hK => ?_); go_simp
  refine (Hcrgn.out _).mono ?_
  rintro e w2 ⟨rfl, m2⟩
  go_simp
  have Hm2 : Hid (More W w2) := Hm1.out.trans m2
  clear m2
  refine hK _ _ ((HS.out _).2 Hm2.out) ?_; clear hK K
  refine wpOrd_pickT rfl rfl (by kernel_rfl) rfl (fun K hK => ?_); go_simp; refine hK _ _ ?_; clear hK K
  refine wpOrd_move rfl rfl (by kernel_rfl) (fun K hK => ?_); go_simp; refine hK _ _ ?_; clear hK K
  iterate 11 (refine wpOrd_skip rfl ((HS.out _).2 Hm2.out) (by kernel_rfl) (by kernel_rfl) ?_)
  refine wpOrd_pickF rfl rfl (by kernel_rfl) rfl (fun K hK => ?_); go_simp; refine hK _ _ ?_; clear hK K
  refine wpOrd_assign rfl rfl (by kernel_rfl) (fun K hK => ?_); go_simp; refine hK _ _ ?_; clear hK K
  refine wpOrd_done ?_
  go_wp2
  go_ret
  exact ⟨rfl, Hw.out.trans Hm2.out⟩

set_option maxHeartbeats 1000000 in
theorem fields_6_all (rb ro : Nat) (rl rc : Nat) (ca : Option Addr) (cl cc : Nat) (code regs : Int) (a b c n : Int) (l nw : Int) (s : Bool) (w : World) (h0 : 0 ≤ c) (h1 : c < (rl : Int))
    (hr0 : w.cell? ⟨rb, ro + c.toNat * 2, none⟩ = some (.int .i64 l)) (hr1 : w.cell? ⟨rb, ro + c.toNat * 2 + 1, none⟩ = some (.bool s))
    (creg : ∀ (g cp : Nat) (w : World), w.cell? ⟨g, 0, none⟩ = some (.int .i64 a) → Calls Try.prog 100 #[.agg #[.slice (some ⟨rb, ro, none⟩) rl rc, .slice ca cl cc, .int .i64 code, .int .i64 regs], .slice (some ⟨g, 0, none⟩) 1 cp] w fun e w' => e = .returned (.bool true) ∧ More w w')
    (crgn : ∀ (w : World), Calls Try.prog 101 #[.agg #[.slice (some ⟨rb, ro, none⟩) rl rc, .slice ca cl cc, .int .i64 code, .int .i64 regs], .int .i64 c] w fun e w' => e = .returned (.bool true) ∧ More w w')
    (cwrd : ∀ (w : World), Calls Try.prog 41 #[.agg #[.int .i64 l, .bool s]] w fun e w' => e = .returned (.int .i64 nw) ∧ More w w') :
    Calls Try.prog 90 #[.agg #[.slice (some ⟨rb, ro, none⟩) rl rc, .slice ca cl cc, .int .i64 code, .int .i64 regs], .agg #[.int .i64 6, .int .i64 a, .int .i64 b, .int .i64 c, .int .i64 n]] w (Says (Blw n nw) w) := by
  have Hcreg : Hid (∀ (g cp : Nat) (w : World), w.cell? ⟨g, 0, none⟩ = some (.int .i64 a) → Calls Try.prog 100 #[.agg #[.slice (some ⟨rb, ro, none⟩) rl rc, .slice ca cl cc, .int .i64 code, .int .i64 regs], .slice (some ⟨g, 0, none⟩) 1 cp] w fun e w' => e = .returned (.bool true) ∧ More w w') := creg
  clear creg
  have Hcrgn : Hid (∀ (w : World), Calls Try.prog 101 #[.agg #[.slice (some ⟨rb, ro, none⟩) rl rc, .slice ca cl cc, .int .i64 code, .int .i64 regs], .int .i64 c] w fun e w' => e = .returned (.bool true) ∧ More w w') := crgn
  clear crgn
  have Hcwrd : Hid (∀ (w : World), Calls Try.prog 41 #[.agg #[.int .i64 l, .bool s]] w fun e w' => e = .returned (.int .i64 nw) ∧ More w w') := cwrd
  clear cwrd
  obtain ⟨W, HW⟩ : ∃ W : World, Hid (W = ((w.alloc (.cells #[.slice (some ⟨rb, ro, none⟩) rl rc, .slice ca cl cc, .int .i64 code, .int .i64 regs] 63)).alloc (.cells #[.int .i64 6, .int .i64 a, .int .i64 b, .int .i64 c, .int .i64 n] 34))) := ⟨_, rfl⟩
  have Hw : Hid (More w W) := HW.out ▸ (((More.refl _).alloc _ _).alloc _ _)
  obtain ⟨S, HS⟩ : ∃ S : World → Prop, Hid (∀ w', S w' ↔ More W w') := ⟨fun w' => More W w', fun _ => Iff.rfl⟩
  have k00 : ∀ i : { w' // S w' }, i.val.cell? ⟨w.heap.size, 0, none⟩ = some (.slice (some ⟨rb, ro, none⟩) rl rc) := fun i => ((HS.out _).1 i.property).cell (by rw [HW.out]; go_simp)
  have k01 : ∀ i : { w' // S w' }, i.val.cell? ⟨w.heap.size, 1, none⟩ = some (.slice ca cl cc) := fun i => ((HS.out _).1 i.property).cell (by rw [HW.out]; go_simp)
  have k02 : ∀ i : { w' // S w' }, i.val.cell? ⟨w.heap.size, 2, none⟩ = some (.int .i64 code) := fun i => ((HS.out _).1 i.property).cell (by rw [HW.out]; go_simp)
  have k03 : ∀ i : { w' // S w' }, i.val.cell? ⟨w.heap.size, 3, none⟩ = some (.int .i64 regs) := fun i => ((HS.out _).1 i.property).cell (by rw [HW.out]; go_simp)
  have k11 : ∀ i : { w' // S w' }, i.val.cell? ⟨w.heap.size + 1, 1, none⟩ = some (.int .i64 a) := fun i => ((HS.out _).1 i.property).cell (by rw [HW.out]; go_simp)
  have k13 : ∀ i : { w' // S w' }, i.val.cell? ⟨w.heap.size + 1, 3, none⟩ = some (.int .i64 c) := fun i => ((HS.out _).1 i.property).cell (by rw [HW.out]; go_simp)
  have k14 : ∀ i : { w' // S w' }, i.val.cell? ⟨w.heap.size + 1, 4, none⟩ = some (.int .i64 n) := fun i => ((HS.out _).1 i.property).cell (by rw [HW.out]; go_simp)
  have kr0 : ∀ i : { w' // S w' }, i.val.cell? ⟨rb, ro + c.toNat * 2, none⟩ = some (.int .i64 l) := fun i => ((HS.out _).1 i.property).cell (Hw.out.cell hr0)
  have kr1 : ∀ i : { w' // S w' }, i.val.cell? ⟨rb, ro + c.toNat * 2 + 1, none⟩ = some (.bool s) := fun i => ((HS.out _).1 i.property).cell (Hw.out.cell hr1)
  have hne : Nonempty { w' // S w' } := ⟨⟨W, (HS.out _).2 (More.refl _)⟩⟩
  clear hr0 hr1
  go_enter Try.func90, Try.ntmps90
  go_wp2_with (fail)
  refine wp_region_ord (S := S) [(0, true), (1, true), (2, true), (3, false), (4, false), (5, true), (6, true), (7, true), (8, true), (9, false), (10, true), (11, true), (12, true), (13, true), (14, true), (15, true), (16, true), (17, true), (18, true), (19, true), (20, true), (21, false), (22, false), (23, true), (24, true)] (by kernel_rfl) (by kernel_rfl) (by kernel_rfl) ((HS.out _).2 (HW.out ▸ (More.refl _).drew)) ?_
  iterate 3 (refine wpOrd_take rfl (by kernel_rfl) (fun K hK => ?_); go_simp; refine hK _ _ ?_; clear hK K)
  refine wpOrd_busy rfl (by kernel_rfl) (fun K hK => ?_); go_simp; refine hK _ _ ((HS.out _).2 (HW.out ▸ (by repeat (first | exact More.refl _ | apply More.drew | apply More.alloc)))) ?_; clear hK K
  refine wpOrd_busy rfl (by kernel_rfl) (fun K hK => ?_); go_simp
  refine (Hcreg.out _ _ _ (by go_simp)).mono ?_
  rintro e w1 ⟨rfl, m1⟩
  go_simp
  have Hm1 : Hid (More W w1) := HW.out ▸ More.trans (by repeat (first | exact More.refl _ | apply More.drew | apply More.alloc)) m1
  clear m1
  refine hK _ _ ((HS.out _).2 Hm1.out) ?_; clear hK K
  refine wpOrd_move rfl rfl (by kernel_rfl) (fun K hK => ?_); go_simp; refine hK _ _ ?_; clear hK K
  iterate 3 (refine wpOrd_take rfl (by kernel_rfl) (fun K hK => ?_); go_simp; refine hK _ _ ?_; clear hK K)
  refine wpOrd_busy rfl (by kernel_rfl) (fun K hK => ?_); go_simp
  refine (Hcrgn.out _).mono ?_
  rintro e w2 ⟨rfl, m2⟩
  go_simp
  have Hm2 : Hid (More W w2) := Hm1.out.trans m2
  clear m2
  refine hK _ _ ((HS.out _).2 Hm2.out) ?_; clear hK K
  refine wpOrd_pickT rfl rfl (by kernel_rfl) rfl (fun K hK => ?_); go_simp; refine hK _ _ ?_; clear hK K
  refine wpOrd_move rfl rfl (by kernel_rfl) (fun K hK => ?_); go_simp; refine hK _ _ ?_; clear hK K
  iterate 9 (refine wpOrd_take rfl (by kernel_rfl) (fun K hK => ?_); go_simp; refine hK _ _ ?_; clear hK K)
  refine wpOrd_busy rfl (by kernel_rfl) (fun K hK => ?_); go_simp
  refine (Hcwrd.out _).mono ?_
  rintro e w3 ⟨rfl, m3⟩
  go_simp
  have Hm3 : Hid (More W w3) := Hm2.out.trans m3
  clear m3
  refine hK _ _ ((HS.out _).2 Hm3.out) ?_; clear hK K
  refine wpOrd_busy rfl (by kernel_rfl) (fun K hK => ?_); go_simp
  refine (lay_below_calls n nw _).mono ?_
  rintro e w4 ⟨r, rfl, hr, m4⟩
  have Hr : Hid (r = true ↔ Blw n nw) := hr
  clear hr
  go_simp
  have Hm4 : Hid (More W w4) := Hm3.out.trans m4
  clear m4
  refine hK _ _ ((HS.out _).2 Hm4.out) ?_; clear hK K
  refine wpOrd_pickT rfl rfl (by kernel_rfl) rfl (fun K hK => ?_); go_simp; refine hK _ _ ?_; clear hK K
  refine wpOrd_assign rfl rfl (by kernel_rfl) (fun K hK => ?_); go_simp; refine hK _ _ ?_; clear hK K
  refine wpOrd_done ?_
  go_wp2
  go_ret
  exact ⟨r, rfl, Hr.out, Hw.out.trans Hm4.out⟩

end Go.Proofs.Ytbfhchhggkpbdaa

/-
  What layout's named comes to: an instruction with only those fields that are named for its Op.
-/
namespace Go.Proofs.Ytbfhchhggkpbdaa
open Go.RowKit

/-- The fields that are not named are 0. -/
def NamedOk (op a b c n : Int) : Prop :=
  if op = 1 then b = 0 ∧ c = 0
  else if op = 2 then c = 0 ∧ n = 0
  else if op = 3 then True
  else if op = 4 then True
  else if op = 5 then b = 0
  else if op = 6 then b = 0
  else if op = 7 then a = 0 ∧ b = 0 ∧ c = 0
  else if op = 8 then True
  else if op = 9 then b = 0 ∧ c = 0 ∧ n = 0
  else if op = 10 then c = 0
  else if op = 11 then b = 0 ∧ c = 0
  else if op = 12 then a = 0 ∧ b = 0 ∧ c = 0 ∧ n = 0
  else n = 0

theorem named_1 (a b c n : Int) (w : World) :
    Calls Try.prog 89 #[.agg #[.int .i64 1, .int .i64 a, .int .i64 b, .int .i64 c, .int .i64 n]] w fun e w' => e = .returned (.agg #[.int .i64 1, .int .i64 a, .int .i64 0, .int .i64 0, .int .i64 n]) ∧ More w w' := by
  go_enter Try.func89, Try.ntmps89
  go_wp2
  exact bodyPost_ret (by simp [results, Try.results89, go_sem]) rfl ⟨rfl, ((More.refl _).alloc _ _).alloc _ _⟩

theorem named_2 (a b c n : Int) (w : World) :
    Calls Try.prog 89 #[.agg #[.int .i64 2, .int .i64 a, .int .i64 b, .int .i64 c, .int .i64 n]] w fun e w' => e = .returned (.agg #[.int .i64 2, .int .i64 a, .int .i64 b, .int .i64 0, .int .i64 0]) ∧ More w w' := by
  go_enter Try.func89, Try.ntmps89
  go_wp2
  exact bodyPost_ret (by simp [results, Try.results89, go_sem]) rfl ⟨rfl, ((More.refl _).alloc _ _).alloc _ _⟩

theorem named_3 (a b c n : Int) (w : World) :
    Calls Try.prog 89 #[.agg #[.int .i64 3, .int .i64 a, .int .i64 b, .int .i64 c, .int .i64 n]] w fun e w' => e = .returned (.agg #[.int .i64 3, .int .i64 a, .int .i64 b, .int .i64 c, .int .i64 n]) ∧ More w w' := by
  go_enter Try.func89, Try.ntmps89
  go_wp2
  exact bodyPost_ret (by simp [results, Try.results89, go_sem]) rfl ⟨rfl, ((More.refl _).alloc _ _).alloc _ _⟩

theorem named_4 (a b c n : Int) (w : World) :
    Calls Try.prog 89 #[.agg #[.int .i64 4, .int .i64 a, .int .i64 b, .int .i64 c, .int .i64 n]] w fun e w' => e = .returned (.agg #[.int .i64 4, .int .i64 a, .int .i64 b, .int .i64 c, .int .i64 n]) ∧ More w w' := by
  go_enter Try.func89, Try.ntmps89
  go_wp2
  exact bodyPost_ret (by simp [results, Try.results89, go_sem]) rfl ⟨rfl, ((More.refl _).alloc _ _).alloc _ _⟩

theorem named_5 (a b c n : Int) (w : World) :
    Calls Try.prog 89 #[.agg #[.int .i64 5, .int .i64 a, .int .i64 b, .int .i64 c, .int .i64 n]] w fun e w' => e = .returned (.agg #[.int .i64 5, .int .i64 a, .int .i64 0, .int .i64 c, .int .i64 n]) ∧ More w w' := by
  go_enter Try.func89, Try.ntmps89
  go_wp2
  exact bodyPost_ret (by simp [results, Try.results89, go_sem]) rfl ⟨rfl, ((More.refl _).alloc _ _).alloc _ _⟩

theorem named_6 (a b c n : Int) (w : World) :
    Calls Try.prog 89 #[.agg #[.int .i64 6, .int .i64 a, .int .i64 b, .int .i64 c, .int .i64 n]] w fun e w' => e = .returned (.agg #[.int .i64 6, .int .i64 a, .int .i64 0, .int .i64 c, .int .i64 n]) ∧ More w w' := by
  go_enter Try.func89, Try.ntmps89
  go_wp2
  exact bodyPost_ret (by simp [results, Try.results89, go_sem]) rfl ⟨rfl, ((More.refl _).alloc _ _).alloc _ _⟩

theorem named_7 (a b c n : Int) (w : World) :
    Calls Try.prog 89 #[.agg #[.int .i64 7, .int .i64 a, .int .i64 b, .int .i64 c, .int .i64 n]] w fun e w' => e = .returned (.agg #[.int .i64 7, .int .i64 0, .int .i64 0, .int .i64 0, .int .i64 n]) ∧ More w w' := by
  go_enter Try.func89, Try.ntmps89
  go_wp2
  exact bodyPost_ret (by simp [results, Try.results89, go_sem]) rfl ⟨rfl, ((More.refl _).alloc _ _).alloc _ _⟩

theorem named_8 (a b c n : Int) (w : World) :
    Calls Try.prog 89 #[.agg #[.int .i64 8, .int .i64 a, .int .i64 b, .int .i64 c, .int .i64 n]] w fun e w' => e = .returned (.agg #[.int .i64 8, .int .i64 a, .int .i64 b, .int .i64 c, .int .i64 n]) ∧ More w w' := by
  go_enter Try.func89, Try.ntmps89
  go_wp2
  exact bodyPost_ret (by simp [results, Try.results89, go_sem]) rfl ⟨rfl, ((More.refl _).alloc _ _).alloc _ _⟩

theorem named_9 (a b c n : Int) (w : World) :
    Calls Try.prog 89 #[.agg #[.int .i64 9, .int .i64 a, .int .i64 b, .int .i64 c, .int .i64 n]] w fun e w' => e = .returned (.agg #[.int .i64 9, .int .i64 a, .int .i64 0, .int .i64 0, .int .i64 0]) ∧ More w w' := by
  go_enter Try.func89, Try.ntmps89
  go_wp2
  exact bodyPost_ret (by simp [results, Try.results89, go_sem]) rfl ⟨rfl, ((More.refl _).alloc _ _).alloc _ _⟩

theorem named_10 (a b c n : Int) (w : World) :
    Calls Try.prog 89 #[.agg #[.int .i64 10, .int .i64 a, .int .i64 b, .int .i64 c, .int .i64 n]] w fun e w' => e = .returned (.agg #[.int .i64 10, .int .i64 a, .int .i64 b, .int .i64 0, .int .i64 n]) ∧ More w w' := by
  go_enter Try.func89, Try.ntmps89
  go_wp2
  exact bodyPost_ret (by simp [results, Try.results89, go_sem]) rfl ⟨rfl, ((More.refl _).alloc _ _).alloc _ _⟩

theorem named_11 (a b c n : Int) (w : World) :
    Calls Try.prog 89 #[.agg #[.int .i64 11, .int .i64 a, .int .i64 b, .int .i64 c, .int .i64 n]] w fun e w' => e = .returned (.agg #[.int .i64 11, .int .i64 a, .int .i64 0, .int .i64 0, .int .i64 n]) ∧ More w w' := by
  go_enter Try.func89, Try.ntmps89
  go_wp2
  exact bodyPost_ret (by simp [results, Try.results89, go_sem]) rfl ⟨rfl, ((More.refl _).alloc _ _).alloc _ _⟩

theorem named_12 (a b c n : Int) (w : World) :
    Calls Try.prog 89 #[.agg #[.int .i64 12, .int .i64 a, .int .i64 b, .int .i64 c, .int .i64 n]] w fun e w' => e = .returned (.agg #[.int .i64 12, .int .i64 0, .int .i64 0, .int .i64 0, .int .i64 0]) ∧ More w w' := by
  go_enter Try.func89, Try.ntmps89
  go_wp2
  exact bodyPost_ret (by simp [results, Try.results89, go_sem]) rfl ⟨rfl, ((More.refl _).alloc _ _).alloc _ _⟩

theorem named_else (op a b c n : Int) (h1 : ¬ op = 1) (h2 : ¬ op = 2) (h3 : ¬ op = 3) (h4 : ¬ op = 4) (h5 : ¬ op = 5) (h6 : ¬ op = 6) (h7 : ¬ op = 7) (h8 : ¬ op = 8) (h9 : ¬ op = 9) (h10 : ¬ op = 10) (h11 : ¬ op = 11) (h12 : ¬ op = 12) (w : World) :
    Calls Try.prog 89 #[.agg #[.int .i64 op, .int .i64 a, .int .i64 b, .int .i64 c, .int .i64 n]] w fun e w' => e = .returned (.agg #[.int .i64 op, .int .i64 a, .int .i64 b, .int .i64 c, .int .i64 0]) ∧ More w w' := by
  go_enter Try.func89, Try.ntmps89
  go_wp2
  exact bodyPost_ret (by simp [results, Try.results89, go_sem]) rfl ⟨rfl, ((More.refl _).alloc _ _).alloc _ _⟩

/-- The instruction with its named fields alone is the same one just if the others are 0. -/
theorem named_calls (op a b c n : Int) (w : World) :
    Calls Try.prog 89 #[.agg #[.int .i64 op, .int .i64 a, .int .i64 b, .int .i64 c, .int .i64 n]] w fun e w' =>
      ∃ a' b' c' n' : Int, e = .returned (.agg #[.int .i64 op, .int .i64 a', .int .i64 b', .int .i64 c', .int .i64 n']) ∧ ((a = a' ∧ b = b' ∧ c = c' ∧ n = n') ↔ NamedOk op a b c n) ∧ More w w' := by
  by_cases h1 : op = 1
  · subst h1
    refine (named_1 a b c n w).mono fun e w' h => ⟨a, 0, 0, n, h.1, ?_, h.2⟩
    unfold NamedOk; simp
  by_cases h2 : op = 2
  · subst h2
    refine (named_2 a b c n w).mono fun e w' h => ⟨a, b, 0, 0, h.1, ?_, h.2⟩
    unfold NamedOk; simp
  by_cases h3 : op = 3
  · subst h3
    refine (named_3 a b c n w).mono fun e w' h => ⟨a, b, c, n, h.1, ?_, h.2⟩
    unfold NamedOk; simp
  by_cases h4 : op = 4
  · subst h4
    refine (named_4 a b c n w).mono fun e w' h => ⟨a, b, c, n, h.1, ?_, h.2⟩
    unfold NamedOk; simp
  by_cases h5 : op = 5
  · subst h5
    refine (named_5 a b c n w).mono fun e w' h => ⟨a, 0, c, n, h.1, ?_, h.2⟩
    unfold NamedOk; simp
  by_cases h6 : op = 6
  · subst h6
    refine (named_6 a b c n w).mono fun e w' h => ⟨a, 0, c, n, h.1, ?_, h.2⟩
    unfold NamedOk; simp
  by_cases h7 : op = 7
  · subst h7
    refine (named_7 a b c n w).mono fun e w' h => ⟨0, 0, 0, n, h.1, ?_, h.2⟩
    unfold NamedOk; simp
  by_cases h8 : op = 8
  · subst h8
    refine (named_8 a b c n w).mono fun e w' h => ⟨a, b, c, n, h.1, ?_, h.2⟩
    unfold NamedOk; simp
  by_cases h9 : op = 9
  · subst h9
    refine (named_9 a b c n w).mono fun e w' h => ⟨a, 0, 0, 0, h.1, ?_, h.2⟩
    unfold NamedOk; simp
  by_cases h10 : op = 10
  · subst h10
    refine (named_10 a b c n w).mono fun e w' h => ⟨a, b, 0, n, h.1, ?_, h.2⟩
    unfold NamedOk; simp
  by_cases h11 : op = 11
  · subst h11
    refine (named_11 a b c n w).mono fun e w' h => ⟨a, 0, 0, n, h.1, ?_, h.2⟩
    unfold NamedOk; simp
  by_cases h12 : op = 12
  · subst h12
    refine (named_12 a b c n w).mono fun e w' h => ⟨0, 0, 0, 0, h.1, ?_, h.2⟩
    unfold NamedOk; simp
  refine (named_else op a b c n h1 h2 h3 h4 h5 h6 h7 h8 h9 h10 h11 h12 w).mono fun e w' h => ⟨a, b, c, 0, h.1, ?_, h.2⟩
  unfold NamedOk
  rw [if_neg h1, if_neg h2, if_neg h3, if_neg h4, if_neg h5, if_neg h6, if_neg h7, if_neg h8, if_neg h9, if_neg h10, if_neg h11, if_neg h12]
  simp

end Go.Proofs.Ytbfhchhggkpbdaa

/-
  What layout's fieldsAllowed comes to, whatever the operation.
-/
namespace Go.Proofs.Ytbfhchhggkpbdaa
open Go.RowKit

theorem ins_iff (rl : Nat) (log : Nat → Int) (cl : Nat) (regs op a b c n : Int) : InsOk rl log cl regs ⟨op, a, b, c, n⟩ ↔ NamedOk op a b c n ∧ FieldsOk rl log cl regs op a b c n := by
  unfold InsOk NamedOk FieldsOk Btw
  dsimp only
  by_cases h1 : op = 1
  · rw [if_pos h1, if_pos h1, if_pos h1]; exact ⟨fun h => ⟨⟨h.2.1, h.2.2⟩, h.1⟩, fun h => ⟨h.2, h.1.1, h.1.2⟩⟩
  rw [if_neg h1, if_neg h1, if_neg h1]
  by_cases h2 : op = 2
  · rw [if_pos h2, if_pos h2, if_pos h2]; exact ⟨fun h => ⟨⟨h.2.2.1, h.2.2.2⟩, h.1, h.2.1⟩, fun h => ⟨h.2.1, h.2.2, h.1.1, h.1.2⟩⟩
  rw [if_neg h2, if_neg h2, if_neg h2]
  by_cases h3 : op = 3
  · rw [if_pos h3, if_pos h3, if_pos h3]; exact ⟨fun h => ⟨trivial, ⟨h.1, h.2.1⟩, h.2.2⟩, fun h => ⟨h.2.1.1, h.2.1.2, h.2.2⟩⟩
  rw [if_neg h3, if_neg h3, if_neg h3]
  by_cases h4 : op = 4
  · rw [if_pos h4, if_pos h4, if_pos h4]; exact ⟨fun h => ⟨trivial, ⟨h.1, h.2.1⟩, h.2.2⟩, fun h => ⟨h.2.1.1, h.2.1.2, h.2.2⟩⟩
  rw [if_neg h4, if_neg h4, if_neg h4]
  by_cases h5 : op = 5
  · rw [if_pos h5, if_pos h5, if_pos h5]; exact ⟨fun h => ⟨h.2.1, h.1, h.2.2.1, h.2.2.2⟩, fun h => ⟨h.2.1, h.1, h.2.2.1, h.2.2.2⟩⟩
  rw [if_neg h5, if_neg h5, if_neg h5]
  by_cases h6 : op = 6
  · rw [if_pos h6, if_pos h6, if_pos h6]; exact ⟨fun h => ⟨h.2.1, h.1, h.2.2.1, h.2.2.2⟩, fun h => ⟨h.2.1, h.1, h.2.2.1, h.2.2.2⟩⟩
  rw [if_neg h6, if_neg h6, if_neg h6]
  by_cases h7 : op = 7
  · rw [if_pos h7, if_pos h7, if_pos h7]; exact ⟨fun h => ⟨⟨h.1, h.2.1, h.2.2.1⟩, h.2.2.2⟩, fun h => ⟨h.1.1, h.1.2.1, h.1.2.2, h.2⟩⟩
  rw [if_neg h7, if_neg h7, if_neg h7]
  by_cases h8 : op = 8
  · rw [if_pos h8, if_pos h8, if_pos h8]; exact ⟨fun h => ⟨trivial, ⟨h.1, h.2.1⟩, h.2.2.1, h.2.2.2⟩, fun h => ⟨h.2.1.1, h.2.1.2, h.2.2.1, h.2.2.2⟩⟩
  rw [if_neg h8, if_neg h8, if_neg h8]
  by_cases h9 : op = 9
  · rw [if_pos h9, if_pos h9, if_pos h9]; exact ⟨fun h => ⟨⟨h.2.1, h.2.2.1, h.2.2.2⟩, h.1⟩, fun h => ⟨h.2, h.1.1, h.1.2.1, h.1.2.2⟩⟩
  rw [if_neg h9, if_neg h9, if_neg h9]
  by_cases h10 : op = 10
  · rw [if_pos h10, if_pos h10, if_pos h10]; exact ⟨fun h => ⟨h.2.2, h.1, h.2.1⟩, fun h => ⟨h.2.1, h.2.2, h.1⟩⟩
  rw [if_neg h10, if_neg h10, if_neg h10]
  by_cases h11 : op = 11
  · rw [if_pos h11, if_pos h11, if_pos h11]; exact ⟨fun h => ⟨⟨h.2.1, h.2.2.1⟩, h.1, h.2.2.2.1, h.2.2.2.2⟩, fun h => ⟨h.2.1, h.1.1, h.1.2, h.2.2.1, h.2.2.2⟩⟩
  rw [if_neg h11, if_neg h11, if_neg h11]
  by_cases h12 : op = 12
  · rw [if_pos h12, if_pos h12, if_pos h12]; exact ⟨fun h => ⟨h, trivial⟩, fun h => h.1⟩
  rw [if_neg h12, if_neg h12, if_neg h12]
  exact ⟨fun h => ⟨h.2.2.2.2, h.1, h.2.1, h.2.2.1, h.2.2.2.1⟩, fun h => ⟨h.2.1, h.2.2.1, h.2.2.2.1, h.2.2.2.2, h.1⟩⟩

theorem fields_5 (ra : Option Addr) (rl rc : Nat) (ca : Option Addr) (cl cc : Nat) (code regs : Int) (a b c n : Int) (rb ro : Nat) (log : Nat → Int) (sec : Nat → Bool) (w : World)
    (hra : 0 < rl → ra = some ⟨rb, ro, none⟩) (hr : RegsAt w rb ro rl log sec) (hok : RegionsOk rl log) :
    Calls Try.prog 90 #[.agg #[.slice ra rl rc, .slice ca cl cc, .int .i64 code, .int .i64 regs], .agg #[.int .i64 5, .int .i64 a, .int .i64 b, .int .i64 c, .int .i64 n]] w (Says (Reg regs a ∧ Rgn rl c ∧ Wrd log c n) w) := by
  by_cases hA : Reg regs a
  · by_cases hC : Rgn rl c
    · have h0 := hC.1
      have h1 := hC.2
      obtain rfl := hra (by omega)
      have hk : c.toNat < rl := by omega
      refine (fields_5_all rb ro rl rc ca cl cc code regs a b c n (log c.toNat) (wordsI (log c.toNat)) (sec c.toNat) w h0 h1 (hr _ hk).1 (hr _ hk).2
        (fun g cp w h => (registers1 _ rl rc ca cl cc code regs g cp a w h).mono fun _ _ s => s.is_yes hA)
        (fun w => (region_calls _ rl rc ca cl cc code regs c w).mono fun _ _ s => s.is_yes hC)
        (fun w => words_calls _ (hok.2 _ hk).1 (hok.2 _ hk).2 _ w)).mono ?_
      rintro e w' ⟨r, rfl, h, m⟩
      exact ⟨r, rfl, h.trans ⟨fun h => ⟨hA, hC, h⟩, fun h => h.2.2⟩, m⟩
    · refine (fields_5_norgn ra rl rc ca cl cc code regs a b c n w
        (fun g cp w h => (registers1 _ rl rc ca cl cc code regs g cp a w h).mono fun _ _ s => s.is_yes hA)
        (fun w => (region_calls _ rl rc ca cl cc code regs c w).mono fun _ _ s => s.is_no hC)).mono ?_
      rintro e w' ⟨rfl, m⟩
      exact Says.no (fun h => hC h.2.1) m
  · refine (fields_5_noreg ra rl rc ca cl cc code regs a b c n w
      (fun g cp w h => (registers1 _ rl rc ca cl cc code regs g cp a w h).mono fun _ _ s => s.is_no hA)).mono ?_
    rintro e w' ⟨rfl, m⟩
    exact Says.no (fun h => hA h.1) m

theorem fields_6 (ra : Option Addr) (rl rc : Nat) (ca : Option Addr) (cl cc : Nat) (code regs : Int) (a b c n : Int) (rb ro : Nat) (log : Nat → Int) (sec : Nat → Bool) (w : World)
    (hra : 0 < rl → ra = some ⟨rb, ro, none⟩) (hr : RegsAt w rb ro rl log sec) (hok : RegionsOk rl log) :
    Calls Try.prog 90 #[.agg #[.slice ra rl rc, .slice ca cl cc, .int .i64 code, .int .i64 regs], .agg #[.int .i64 6, .int .i64 a, .int .i64 b, .int .i64 c, .int .i64 n]] w (Says (Reg regs a ∧ Rgn rl c ∧ Wrd log c n) w) := by
  by_cases hA : Reg regs a
  · by_cases hC : Rgn rl c
    · have h0 := hC.1
      have h1 := hC.2
      obtain rfl := hra (by omega)
      have hk : c.toNat < rl := by omega
      refine (fields_6_all rb ro rl rc ca cl cc code regs a b c n (log c.toNat) (wordsI (log c.toNat)) (sec c.toNat) w h0 h1 (hr _ hk).1 (hr _ hk).2
        (fun g cp w h => (registers1 _ rl rc ca cl cc code regs g cp a w h).mono fun _ _ s => s.is_yes hA)
        (fun w => (region_calls _ rl rc ca cl cc code regs c w).mono fun _ _ s => s.is_yes hC)
        (fun w => words_calls _ (hok.2 _ hk).1 (hok.2 _ hk).2 _ w)).mono ?_
      rintro e w' ⟨r, rfl, h, m⟩
      exact ⟨r, rfl, h.trans ⟨fun h => ⟨hA, hC, h⟩, fun h => h.2.2⟩, m⟩
    · refine (fields_6_norgn ra rl rc ca cl cc code regs a b c n w
        (fun g cp w h => (registers1 _ rl rc ca cl cc code regs g cp a w h).mono fun _ _ s => s.is_yes hA)
        (fun w => (region_calls _ rl rc ca cl cc code regs c w).mono fun _ _ s => s.is_no hC)).mono ?_
      rintro e w' ⟨rfl, m⟩
      exact Says.no (fun h => hC h.2.1) m
  · refine (fields_6_noreg ra rl rc ca cl cc code regs a b c n w
      (fun g cp w h => (registers1 _ rl rc ca cl cc code regs g cp a w h).mono fun _ _ s => s.is_no hA)).mono ?_
    rintro e w' ⟨rfl, m⟩
    exact Says.no (fun h => hA h.1) m

theorem fields_calls (ra : Option Addr) (rl rc : Nat) (ca : Option Addr) (cl cc : Nat) (code regs : Int) (op a b c n : Int) (rb ro : Nat) (log : Nat → Int) (sec : Nat → Bool) (w : World)
    (hra : 0 < rl → ra = some ⟨rb, ro, none⟩) (hr : RegsAt w rb ro rl log sec) (hok : RegionsOk rl log) :
    Calls Try.prog 90 #[.agg #[.slice ra rl rc, .slice ca cl cc, .int .i64 code, .int .i64 regs], .agg #[.int .i64 op, .int .i64 a, .int .i64 b, .int .i64 c, .int .i64 n]] w (Says (FieldsOk rl log cl regs op a b c n) w) := by
  unfold FieldsOk
  by_cases h1 : op = 1
  · rw [if_pos h1]; subst h1; exact fields_1 ra rl rc ca cl cc code regs a b c n w
  rw [if_neg h1]
  by_cases h2 : op = 2
  · rw [if_pos h2]; subst h2; exact fields_2 ra rl rc ca cl cc code regs a b c n w
  rw [if_neg h2]
  by_cases h3 : op = 3
  · rw [if_pos h3]; subst h3; exact fields_3 ra rl rc ca cl cc code regs a b c n w
  rw [if_neg h3]
  by_cases h4 : op = 4
  · rw [if_pos h4]; subst h4; exact fields_4 ra rl rc ca cl cc code regs a b c n w
  rw [if_neg h4]
  by_cases h5 : op = 5
  · rw [if_pos h5]; subst h5; exact fields_5 ra rl rc ca cl cc code regs a b c n rb ro log sec w hra hr hok
  rw [if_neg h5]
  by_cases h6 : op = 6
  · rw [if_pos h6]; subst h6; exact fields_6 ra rl rc ca cl cc code regs a b c n rb ro log sec w hra hr hok
  rw [if_neg h6]
  by_cases h7 : op = 7
  · rw [if_pos h7]; subst h7; exact fields_7 ra rl rc ca cl cc code regs a b c n w
  rw [if_neg h7]
  by_cases h8 : op = 8
  · rw [if_pos h8]; subst h8; exact fields_8 ra rl rc ca cl cc code regs a b c n w
  rw [if_neg h8]
  by_cases h9 : op = 9
  · rw [if_pos h9]; subst h9; exact fields_9 ra rl rc ca cl cc code regs a b c n w
  rw [if_neg h9]
  by_cases h10 : op = 10
  · rw [if_pos h10]; subst h10; exact fields_10 ra rl rc ca cl cc code regs a b c n w
  rw [if_neg h10]
  by_cases h11 : op = 11
  · rw [if_pos h11]; subst h11; exact fields_11 ra rl rc ca cl cc code regs a b c n w
  rw [if_neg h11]
  by_cases h12 : op = 12
  · rw [if_pos h12]; subst h12; exact fields_12 ra rl rc ca cl cc code regs a b c n w
  rw [if_neg h12]
  exact fields_else ra rl rc ca cl cc code regs op a b c n h1 h2 h3 h4 h5 h6 h7 h8 h9 h10 h11 h12 w

end Go.Proofs.Ytbfhchhggkpbdaa

/-
  What layout's codeAllowed, allowed, May and Hard come to, called in whatever memory.
-/
namespace Go.Proofs.Ytbfhchhggkpbdaa
open Go.RowKit

set_option maxHeartbeats 1000000 in
theorem code_calls (ra : Option Addr) (rl rc : Nat) (ca : Option Addr) (cl cc : Nat) (code regs : Int) (rb ro cb co : Nat) (log : Nat → Int) (sec : Nat → Bool) (ins : Nat → Ins) (w : World) (most : Nat) (hcode : code = most) (hmost : most ≤ 8000)
    (hra : 0 < rl → ra = some ⟨rb, ro, none⟩) (hr : RegsAt w rb ro rl log sec) (hok : RegionsOk rl log) (hca : 0 < cl → ca = some ⟨cb, co, none⟩) (hc : CodeAt w cb co cl ins) :
    Calls Try.prog 67 #[.agg #[.slice ra rl rc, .slice ca cl cc, .int .i64 code, .int .i64 regs]] w (Says (CodeOk rl log cl ins most regs) w) := by
  have Hcd : Hid (code = most ∧ most ≤ 8000) := ⟨hcode, hmost⟩
  have Hr : Hid ((0 < rl → ra = some ⟨rb, ro, none⟩) ∧ RegsAt w rb ro rl log sec ∧ RegionsOk rl log) := ⟨hra, hr, hok⟩
  have Hc : Hid ((0 < cl → ca = some ⟨cb, co, none⟩) ∧ CodeAt w cb co cl ins) := ⟨hca, hc⟩
  clear hcode hmost hra hr hok hca hc
  by_cases h1 : (cl : Int) < 1
  · go_enter Try.func67, Try.ntmps67
    go_wp2
    go_ret
    exact Says.no (fun h => by have := h.1; omega) ((More.refl _).alloc _ _)
  by_cases h2 : code < (cl : Int)
  · go_enter Try.func67, Try.ntmps67
    go_wp2
    go_ret
    exact Says.no (fun h => by have := h.2.1; have := Hcd.out.1; omega) ((More.refl _).alloc _ _)
  have Hl : Hid (1 ≤ cl ∧ cl ≤ most) := ⟨by omega, by have := Hcd.out.1; omega⟩
  go_enter Try.func67, Try.ntmps67
  go_wp2
  go_loopg [23] cl (fun g i wr => ∃ k : Nat, k + g = cl ∧ i = .int .i64 k ∧ (∀ j, j < k → InsOk rl log cl regs (ins j)) ∧ More (w.alloc (.cells #[.slice ra rl rc, .slice ca cl cc, .int .i64 code, .int .i64 regs] 63)) wr)
  case atStart => exact ⟨0, by omega, rfl, fun j hj => by omega, More.refl _⟩
  case round =>
    obtain ⟨k, hkg, rfl, hin, m⟩ := hrel
    have Hm : Hid (More (w.alloc (.cells #[.slice ra rl rc, .slice ca cl cc, .int .i64 code, .int .i64 regs] 63)) wr ∧ ∀ j, j < k → InsOk rl log cl regs (ins j)) := ⟨m, hin⟩
    clear m hin
    cases gk with
    | zero =>
      obtain rfl : k = cl := by omega
      go_wp2
      go_ret
      exact Says.yes ⟨Hl.out.1, Hl.out.2, Hm.out.2⟩ (((More.refl _).alloc _ _).trans Hm.out.1)
    | succ g =>
      have hk : k < cl := by omega
      have hk' : (k : Int) < (cl : Int) := by omega
      obtain rfl := Hc.out.1 (by omega)
      have Hww : Hid (More w wr) := ((More.refl _).alloc _ _).trans Hm.out.1
      have hcell := (Hc.out.2.more Hww.out) k hk
      have Hrr : Hid (RegsAt wr rb ro rl log sec) := Hr.out.2.1.more Hww.out
      cases hI : ins k with
      | mk op a b c n =>
      rw [hI] at hcell
      have HI : Hid (ins k = ⟨op, a, b, c, n⟩) := hI
      clear hI
      obtain ⟨q0, q1, q2, q3, q4⟩ := hcell
      have e0 : wr.cell? ⟨w.heap.size, 0, none⟩ = some (.slice ra rl rc) := Hm.out.1.cell (by go_simp)
      have e1 : wr.cell? ⟨w.heap.size, 1, none⟩ = some (.slice (some ⟨cb, co, none⟩) cl cc) := Hm.out.1.cell (by go_simp)
      have e2 : wr.cell? ⟨w.heap.size, 2, none⟩ = some (.int .i64 code) := Hm.out.1.cell (by go_simp)
      have e3 : wr.cell? ⟨w.heap.size, 3, none⟩ = some (.int .i64 regs) := Hm.out.1.cell (by go_simp)
      obtain ⟨W, HW⟩ : ∃ W : World, Hid (W = wr.alloc (.cells #[.int .i64 op, .int .i64 a, .int .i64 b, .int .i64 c, .int .i64 n] 34)) := ⟨_, rfl⟩
      have HwW : Hid (More wr W) := HW.out ▸ ((More.refl _).alloc _ _)
      obtain ⟨S, HS⟩ : ∃ S : World → Prop, Hid (∀ w', S w' ↔ More W w') := ⟨fun w' => More W w', fun _ => Iff.rfl⟩
      have k0 : ∀ i : { w' // S w' }, i.val.cell? ⟨w.heap.size, 0, none⟩ = some (.slice ra rl rc) := fun i => ((HS.out _).1 i.property).cell (HwW.out.cell e0)
      have k1 : ∀ i : { w' // S w' }, i.val.cell? ⟨w.heap.size, 1, none⟩ = some (.slice (some ⟨cb, co, none⟩) cl cc) := fun i => ((HS.out _).1 i.property).cell (HwW.out.cell e1)
      have k2 : ∀ i : { w' // S w' }, i.val.cell? ⟨w.heap.size, 2, none⟩ = some (.int .i64 code) := fun i => ((HS.out _).1 i.property).cell (HwW.out.cell e2)
      have k3 : ∀ i : { w' // S w' }, i.val.cell? ⟨w.heap.size, 3, none⟩ = some (.int .i64 regs) := fun i => ((HS.out _).1 i.property).cell (HwW.out.cell e3)
      have d0 : ∀ i : { w' // S w' }, i.val.cell? ⟨wr.heap.size, 0, none⟩ = some (.int .i64 op) := fun i => ((HS.out _).1 i.property).cell (by rw [HW.out]; go_simp)
      have d1 : ∀ i : { w' // S w' }, i.val.cell? ⟨wr.heap.size, 1, none⟩ = some (.int .i64 a) := fun i => ((HS.out _).1 i.property).cell (by rw [HW.out]; go_simp)
      have d2 : ∀ i : { w' // S w' }, i.val.cell? ⟨wr.heap.size, 2, none⟩ = some (.int .i64 b) := fun i => ((HS.out _).1 i.property).cell (by rw [HW.out]; go_simp)
      have d3 : ∀ i : { w' // S w' }, i.val.cell? ⟨wr.heap.size, 3, none⟩ = some (.int .i64 c) := fun i => ((HS.out _).1 i.property).cell (by rw [HW.out]; go_simp)
      have d4 : ∀ i : { w' // S w' }, i.val.cell? ⟨wr.heap.size, 4, none⟩ = some (.int .i64 n) := fun i => ((HS.out _).1 i.property).cell (by rw [HW.out]; go_simp)
      have hne : Nonempty { w' // S w' } := ⟨⟨W, (HS.out _).2 (More.refl _)⟩⟩
      clear e0 e1 e2 e3
      go_wp2_with (fail)
      clear q0 q1 q2 q3 q4
      refine wp_region_ord (S := S) [(0, true), (1, true), (2, false), (3, true), (4, true), (5, true), (6, true), (7, false), (8, true), (9, true)] (by kernel_rfl) (by kernel_rfl) (by kernel_rfl) ((HS.out _).2 (HW.out ▸ (More.refl _).drew)) ?_
      iterate 2 (refine wpOrd_take rfl (by kernel_rfl) (fun K hK => ?_); go_simp; refine hK _ _ ?_; clear hK K)
      refine wpOrd_busy rfl (by kernel_rfl) (fun K hK => ?_); go_simp
      refine (named_calls op a b c n _).mono ?_
      rintro e w1 ⟨a', b', c', n', rfl, hnm, m1⟩
      have Hnm : Hid ((a = a' ∧ b = b' ∧ c = c' ∧ n = n') ↔ NamedOk op a b c n) := hnm
      have Hm1 : Hid (More W w1) := HW.out ▸ (More.trans (More.refl _).drew m1)
      clear hnm m1
      go_simp
      refine hK _ _ ((HS.out _).2 Hm1.out) ?_; clear hK K
      by_cases heq : a = a' ∧ b = b' ∧ c = c' ∧ n = n'
      · have HN : Hid (NamedOk op a b c n) := Hnm.out.1 heq
        obtain ⟨rfl, rfl, rfl, rfl⟩ := heq
        clear Hnm
        refine wpOrd_take rfl (by kernel_rfl) (fun K hK => ?_); go_simp; refine hK _ _ ?_; clear hK K
        refine wpOrd_move rfl rfl (by kernel_rfl) (fun K hK => ?_); go_simp; refine hK _ _ ?_; clear hK K
        iterate 2 (refine wpOrd_take rfl (by kernel_rfl) (fun K hK => ?_); go_simp; refine hK _ _ ?_; clear hK K)
        refine wpOrd_busy rfl (by kernel_rfl) (fun K hK => ?_); go_simp
        refine (fields_calls ra rl rc _ cl cc code regs op a b c n rb ro log sec _ Hr.out.1 (Hrr.out.more (HwW.out.trans Hm1.out)) Hr.out.2.2).mono ?_
        rintro e w2 ⟨r2, rfl, hr2, m2⟩
        have Hm2 : Hid (More W w2) := Hm1.out.trans m2
        clear m2
        cases r2 with
        | false =>
          have HF : Hid (¬ FieldsOk rl log cl regs op a b c n) := fun h => by simpa using hr2.2 h
          clear hr2
          go_simp
          refine hK _ _ ((HS.out _).2 Hm2.out) ?_; clear hK K
          refine wpOrd_take rfl (by kernel_rfl) (fun K hK => ?_); go_simp; refine hK _ _ ?_; clear hK K
          refine wpOrd_pickF rfl rfl (by kernel_rfl) rfl (fun K hK => ?_); go_simp; refine hK _ _ ?_; clear hK K
          refine wpOrd_done ?_
          clear k0 k1 k2 k3 d0 d1 d2 d3 d4 hne
          go_wp2
          go_ret
          exact Says.no (fun h => HF.out ((ins_iff rl log cl regs op a b c n).1 (HI.out ▸ h.2.2 k hk)).2) ((Hww.out.trans HwW.out).trans Hm2.out)
        | true =>
          have HF : Hid (FieldsOk rl log cl regs op a b c n) := hr2.1 rfl
          clear hr2
          go_simp
          refine hK _ _ ((HS.out _).2 Hm2.out) ?_; clear hK K
          refine wpOrd_take rfl (by kernel_rfl) (fun K hK => ?_); go_simp; refine hK _ _ ?_; clear hK K
          refine wpOrd_pickF rfl rfl (by kernel_rfl) rfl (fun K hK => ?_); go_simp; refine hK _ _ ?_; clear hK K
          refine wpOrd_done ?_
          clear k0 k1 k2 k3 d0 d1 d2 d3 d4 hne
          go_wp2
          go_roundg g
          case measure => omega
          case rel =>
            refine ⟨k + 1, by omega, by first | rfl | (simp; unfold wrap64; have := Hl.out.2; have := Hcd.out.2; omega), fun j hj => ?_, (Hm.out.1.trans HwW.out).trans Hm2.out⟩
            by_cases e : j = k
            · subst e; rw [HI.out]; exact (ins_iff rl log cl regs op a b c n).2 ⟨HN.out, HF.out⟩
            · exact Hm.out.2 j (by omega)
      · have HN : Hid (¬ NamedOk op a b c n) := fun h => heq (Hnm.out.2 h)
        clear Hnm
        have Hq : Hid (¬ (a = a' ∧ b = b' ∧ c = c' ∧ n = n')) := heq
        clear heq
        refine wpOrd_take rfl (by kernel_rfl) (fun K hK => ?_)
        go_simp
        refine ⟨.bool true, fun w9 _ => ?_, hK _ _ ?_⟩
        · repeat' split
          all_goals first | rfl | exact absurd ⟨‹_›, ‹_›, ‹_›, ‹_›⟩ Hq.out
        clear hK K
        refine wpOrd_move rfl rfl (by kernel_rfl) (fun K hK => ?_); go_simp; refine hK _ _ ?_; clear hK K
        iterate 4 (refine wpOrd_pass rfl ((HS.out _).2 Hm1.out) (by kernel_rfl) (fun K hK => ?_); go_simp; refine hK _ _ ?_; clear hK K)
        refine wpOrd_pickT rfl rfl (by kernel_rfl) rfl (fun K hK => ?_); go_simp; refine hK _ _ ?_; clear hK K
        refine wpOrd_done ?_
        clear k0 k1 k2 k3 d0 d1 d2 d3 d4 hne
        go_wp2
        go_ret
        exact Says.no (fun h => HN.out ((ins_iff rl log cl regs op a b c n).1 (HI.out ▸ h.2.2 k hk)).1) ((Hww.out.trans HwW.out).trans Hm1.out)

theorem allowed_calls (ra : Option Addr) (rl rc : Nat) (ca : Option Addr) (cl cc : Nat) (code regs : Int) (rb ro cb co : Nat) (log : Nat → Int) (sec : Nat → Bool) (ins : Nat → Ins) (w : World) (most : Nat) (hcode : code = most) (hmost : most ≤ 8000)
    (hra : 0 < rl → ra = some ⟨rb, ro, none⟩) (hr : RegsAt w rb ro rl log sec) (hca : 0 < cl → ca = some ⟨cb, co, none⟩) (hc : CodeAt w cb co cl ins) :
    Calls Try.prog 39 #[.agg #[.slice ra rl rc, .slice ca cl cc, .int .i64 code, .int .i64 regs]] w (Says (RegionsOk rl log ∧ CodeOk rl log cl ins most regs) w) := by
  have Hcd : Hid (code = most ∧ most ≤ 8000) := ⟨hcode, hmost⟩
  have Hr : Hid ((0 < rl → ra = some ⟨rb, ro, none⟩) ∧ RegsAt w rb ro rl log sec) := ⟨hra, hr⟩
  have Hc : Hid ((0 < cl → ca = some ⟨cb, co, none⟩) ∧ CodeAt w cb co cl ins) := ⟨hca, hc⟩
  clear hcode hmost hra hr hca hc
  go_enter Try.func39, Try.ntmps39
  go_wp2_with (fail)
  refine (regions_calls ra rl rc ca cl cc code regs rb ro log sec _ Hr.out.1 (Hr.out.2.more ((More.refl _).alloc _ _))).mono ?_
  rintro e w1 ⟨r, rfl, h, m1⟩
  have e0 : w1.cell? ⟨w.heap.size, 0, none⟩ = some (.slice ra rl rc) := m1.cell (by go_simp)
  have e1 : w1.cell? ⟨w.heap.size, 1, none⟩ = some (.slice ca cl cc) := m1.cell (by go_simp)
  have e2 : w1.cell? ⟨w.heap.size, 2, none⟩ = some (.int .i64 code) := m1.cell (by go_simp)
  have e3 : w1.cell? ⟨w.heap.size, 3, none⟩ = some (.int .i64 regs) := m1.cell (by go_simp)
  have Hm : Hid (More w w1) := ((More.refl _).alloc _ _).trans m1
  clear m1
  cases r with
  | false =>
    have HA : Hid (¬ RegionsOk rl log) := fun k => by simpa using h.2 k
    clear h
    go_wp2
    go_ret
    exact Says.no (fun h => HA.out h.1) Hm.out
  | true =>
    have HA : Hid (RegionsOk rl log) := h.1 rfl
    clear h
    go_wp2_with (fail)
    refine (code_calls ra rl rc ca cl cc code regs rb ro cb co log sec ins _ most Hcd.out.1 Hcd.out.2 Hr.out.1 (Hr.out.2.more Hm.out) HA.out Hc.out.1 (Hc.out.2.more Hm.out)).mono ?_
    rintro e w2 ⟨r2, rfl, h2, m2⟩
    have H2 : Hid ((r2 = true ↔ CodeOk rl log cl ins most regs) ∧ More w1 w2) := ⟨h2, m2⟩
    clear h2 m2
    go_wp2
    go_ret
    exact ⟨r2, rfl, H2.out.1.trans ⟨fun h => ⟨HA.out, h⟩, fun h => h.2⟩, Hm.out.trans H2.out.2⟩

theorem may_calls (p : Prg) (l : Loc) (w : World) (h : PIn w p l) :
    Calls Try.prog 17 #[.agg #[.slice l.ra p.rl l.rc, .slice l.ca p.cl l.cc]] w (Says (p.Ok 200 8) w) := by
  have H : Hid (PIn w p l) := h
  clear h
  go_enter Try.func17, Try.ntmps17
  go_wp2_with (fail)
  have m0 : More w (w.alloc (.cells #[.slice l.ra p.rl l.rc, .slice l.ca p.cl l.cc] 29)) := (More.refl _).alloc _ _
  refine (allowed_calls l.ra p.rl l.rc l.ca p.cl l.cc 200 8 l.rb l.ro l.cb l.co p.log p.sec p.ins _ 200 rfl (by omega) H.out.hr (H.out.regs.more m0) H.out.hc (H.out.code.more m0)).mono ?_
  rintro e w1 ⟨r, rfl, h1, m1⟩
  have H1 : Hid ((r = true ↔ p.Ok 200 8) ∧ More w w1) := ⟨h1, m0.trans m1⟩
  clear h1 m1 m0
  go_wp2
  go_ret
  exact ⟨r, rfl, H1.out.1, H1.out.2⟩

theorem hard_calls (p : Prg) (l : Loc) (w : World) (h : PIn w p l) :
    Calls Try.prog 18 #[.agg #[.slice l.ra p.rl l.rc, .slice l.ca p.cl l.cc]] w (Says (p.Ok 8000 10) w) := by
  have H : Hid (PIn w p l) := h
  clear h
  go_enter Try.func18, Try.ntmps18
  go_wp2_with (fail)
  have m0 : More w (w.alloc (.cells #[.slice l.ra p.rl l.rc, .slice l.ca p.cl l.cc] 29)) := (More.refl _).alloc _ _
  refine (allowed_calls l.ra p.rl l.rc l.ca p.cl l.cc 8000 10 l.rb l.ro l.cb l.co p.log p.sec p.ins _ 8000 rfl (by omega) H.out.hr (H.out.regs.more m0) H.out.hc (H.out.code.more m0)).mono ?_
  rintro e w1 ⟨r, rfl, h1, m1⟩
  have H1 : Hid ((r = true ↔ p.Ok 8000 10) ∧ More w w1) := ⟨h1, m0.trans m1⟩
  clear h1 m1 m0
  go_wp2
  go_ret
  exact ⟨r, rfl, H1.out.1, H1.out.2⟩

end Go.Proofs.Ytbfhchhggkpbdaa

/-
  What layout's Fits comes to, called in whatever memory.
-/
namespace Go.Proofs.Ytbfhchhggkpbdaa
open Go.RowKit

set_option maxHeartbeats 1000000 in
theorem fits_calls (ra : Option Addr) (rl rc : Nat) (ca : Option Addr) (cl cc : Nat) (ma : Option Addr) (ml mc : Nat) (rb ro mb mo : Nat) (log : Nat → Int) (sec : Nat → Bool) (A : Nat → Option Addr) (L C : Nat → Nat) (w : World)
    (hra : 0 < rl → ra = some ⟨rb, ro, none⟩) (hr : RegsAt w rb ro rl log sec) (hma : 0 < ml → ma = some ⟨mb, mo, none⟩) (hm : ListsAt w mb mo ml A L C) :
    Calls Try.prog 19 #[.agg #[.slice ra rl rc, .slice ca cl cc], .slice ma ml mc] w (Says (FitsOk rl log ml L) w) := by
  have Hr : Hid ((0 < rl → ra = some ⟨rb, ro, none⟩) ∧ RegsAt w rb ro rl log sec) := ⟨hra, hr⟩
  have Hl : Hid ((0 < ml → ma = some ⟨mb, mo, none⟩) ∧ ListsAt w mb mo ml A L C) := ⟨hma, hm⟩
  clear hra hr hma hm
  have m0 : More w ((w.alloc (.cells #[.slice ra rl rc, .slice ca cl cc] 29)).alloc (.cells #[.slice ra rl rc, .slice ca cl cc, .int .i64 0, .int .i64 0] 63)) := ((More.refl _).alloc _ _).alloc _ _
  have Hm0 : Hid (More w ((w.alloc (.cells #[.slice ra rl rc, .slice ca cl cc] 29)).alloc (.cells #[.slice ra rl rc, .slice ca cl cc, .int .i64 0, .int .i64 0] 63))) := m0
  clear m0
  go_enter Try.func19, Try.ntmps19
  go_wp2_with (fail)
  refine (regions_calls ra rl rc ca cl cc 0 0 rb ro log sec _ Hr.out.1 (Hr.out.2.more Hm0.out)).mono ?_
  rintro e w1 ⟨r, rfl, h, m1⟩
  have e0 : w1.cell? ⟨w.heap.size, 0, none⟩ = some (.slice ra rl rc) := m1.cell (by go_simp)
  have e1 : w1.cell? ⟨w.heap.size, 1, none⟩ = some (.slice ca cl cc) := m1.cell (by go_simp)
  have Hm1 : Hid (More w w1) := Hm0.out.trans m1
  clear m1 Hm0
  cases r with
  | false =>
    have HA : Hid (¬ RegionsOk rl log) := fun k => by simpa using h.2 k
    clear h
    go_wp2
    go_ret
    exact Says.no (fun h => HA.out h.1) Hm1.out
  | true =>
    have HA : Hid (RegionsOk rl log) := h.1 rfl
    clear h
    by_cases hne : (ml : Int) = (rl : Int)
    · obtain rfl : ml = rl := by omega
      clear hne
      have h6 : ml ≤ 6 := HA.out.1
      go_wp2
      go_loopg [22] ml (fun g i wr => ∃ k : Nat, k + g = ml ∧ i = .int .i64 k ∧ (∀ j, j < k → (L j : Int) = wordsI (log j)) ∧ More w1 wr)
      case atStart => exact ⟨0, by omega, rfl, fun j hj => by omega, More.refl _⟩
      case round =>
        obtain ⟨k, hkg, rfl, hin, m⟩ := hrel
        have Hm : Hid (More w1 wr ∧ ∀ j, j < k → (L j : Int) = wordsI (log j)) := ⟨m, hin⟩
        clear m hin e0 e1
        cases gk with
        | zero =>
          obtain rfl : k = ml := by omega
          go_wp2
          go_ret
          exact Says.yes ⟨HA.out, rfl, Hm.out.2⟩ (Hm1.out.trans Hm.out.1)
        | succ g =>
          have hk : k < ml := by omega
          have hk' : (k : Int) < (ml : Int) := by omega
          have hk0 : (0 : Int) ≤ (k : Int) := by omega
          obtain rfl := Hr.out.1 (by omega)
          obtain rfl := Hl.out.1 (by omega)
          have Hww : Hid (More w wr) := Hm1.out.trans Hm.out.1
          have q0 := ((Hr.out.2.more Hww.out) k hk).1
          have q1 := ((Hr.out.2.more Hww.out) k hk).2
          have q2 := (Hl.out.2.more Hww.out) k hk
          have Hlog : Hid (0 ≤ log k ∧ log k ≤ 6) := HA.out.2 k hk
          obtain ⟨lk, hlk⟩ : ∃ x, log k = x := ⟨_, rfl⟩
          rw [hlk] at q0 Hlog
          have Hlk : Hid (log k = lk) := hlk
          clear hlk
          obtain ⟨W, HW⟩ : ∃ W : World, Hid (W = wr.alloc (.cells #[.int .i64 lk, .bool (sec k)] 66)) := ⟨_, rfl⟩
          have HwW : Hid (More wr W) := HW.out ▸ ((More.refl _).alloc _ _)
          obtain ⟨S, HS⟩ : ∃ S : World → Prop, Hid (∀ w', S w' ↔ More W w') := ⟨fun w' => More W w', fun _ => Iff.rfl⟩
          have k2 : ∀ i : { w' // S w' }, i.val.cell? ⟨mb, mo + k, none⟩ = some (.slice (A k) (L k) (C k)) := fun i => ((HS.out _).1 i.property).cell (HwW.out.cell q2)
          have d0 : ∀ i : { w' // S w' }, i.val.cell? ⟨wr.heap.size, 0, none⟩ = some (.int .i64 lk) := fun i => ((HS.out _).1 i.property).cell (by rw [HW.out]; go_simp)
          have d1 : ∀ i : { w' // S w' }, i.val.cell? ⟨wr.heap.size, 1, none⟩ = some (.bool (sec k)) := fun i => ((HS.out _).1 i.property).cell (by rw [HW.out]; go_simp)
          have hne : Nonempty { w' // S w' } := ⟨⟨W, (HS.out _).2 (More.refl _)⟩⟩
          go_wp2_with (fail)
          clear q0 q1 q2
          refine wp_region_ord (S := S) [(0, true), (1, true), (2, true), (3, true), (4, true), (5, true), (6, false), (7, true)] (by kernel_rfl) (by kernel_rfl) (by kernel_rfl) ((HS.out _).2 (HW.out ▸ (More.refl _).drew)) ?_
          iterate 6 (refine wpOrd_take rfl (by kernel_rfl) (fun K hK => ?_); go_simp; refine hK _ _ ?_; clear hK K)
          refine wpOrd_busy rfl (by kernel_rfl) (fun K hK => ?_); go_simp
          obtain ⟨nw, hnw⟩ : ∃ x, wordsI lk = x := ⟨_, rfl⟩
          refine (words_lit lk Hlog.out.1 Hlog.out.2 nw hnw.symm (sec k) _).mono ?_
          have Hnw : Hid (wordsI (log k) = nw) := by rw [Hlk.out]; exact hnw
          clear hnw
          rintro e w2 ⟨rfl, m2⟩
          have Hm2 : Hid (More W w2) := HW.out ▸ (More.trans (More.refl _).drew m2)
          clear m2
          go_simp
          refine hK _ _ ((HS.out _).2 Hm2.out) ?_; clear hK K
          by_cases hq : (L k : Int) = nw
          · have Hq : Hid ((L k : Int) = nw) := hq
            have heq : ((L k : Int) != nw) = false := by simp [hq]
            clear hq
            refine wpOrd_take rfl (by kernel_rfl) (fun K hK => ?_); go_simp; refine hK _ _ ?_; clear hK K
            refine wpOrd_done ?_
            clear heq k2 d0 d1 hne
            go_wp2
            go_roundg g
            case measure => omega
            case rel =>
              refine ⟨k + 1, by omega, by first | rfl | simp, fun j hj => ?_, (Hm.out.1.trans HwW.out).trans Hm2.out⟩
              by_cases e : j = k
              · subst e; rw [Hq.out, Hnw.out]
              · exact Hm.out.2 j (by omega)
          · have Hq : Hid (¬ (L k : Int) = nw) := hq
            have heq' : ((L k : Int) != nw) = true := by simp [hq]
            clear hq
            refine wpOrd_take rfl (by kernel_rfl) (fun K hK => ?_); go_simp; refine hK _ _ ?_; clear hK K
            refine wpOrd_done ?_
            clear heq' k2 d0 d1 hne
            go_wp2
            go_ret
            exact Says.no (fun h => Hq.out (by rw [← Hnw.out]; exact h.2.2 k hk)) ((Hww.out.trans HwW.out).trans Hm2.out)
    · go_wp2
      go_ret
      exact Says.no (fun h => by have := h.2.1; omega) Hm1.out

end Go.Proofs.Ytbfhchhggkpbdaa

/-
  A machine ahead of its first step, as data: what New lays, region by region. Plain facts, but for the rows of the type itself.
-/
namespace Go.Proofs.Ytbfhchhggkpbdaa
open Go.RowKit
set_option linter.unusedVariables false
set_option linter.unusedSimpArgs false
set_option maxRecDepth 8000

def rowOf (rv cv : Value) (x : Ms) : Array Value := ((List.range 411).map (cellF rv cv x)).toArray
theorem rowOf_mc (rv cv : Value) (x : Ms) : MC (rowOf rv cv { x with tl := fun _ => none }) rv cv { x with tl := fun _ => none } := ⟨by simp [rowOf], fun j hj => by simp [rowOf, hj], fun j hj => by simp [rowOf]; omega⟩
def ms0 (fuel : Int) : Ms := ⟨0, 0, 0, .slice none 0 0, .slice none 0 0, fun _ => 0, fun _ => 0, 0, fuel, false, fun _ => 0, 77, fun _ => none, []⟩
theorem MC.one {c : Array Value} {rv cv : Value} {x : Ms} (h : MC c rv cv x) (h0 : rv.oneCell' = true) (h1 : cv.oneCell' = true) (h2 : x.sv.oneCell' = true) (h3 : x.mv.oneCell' = true) (h4 : x.tl 411 = none) : c.all (·.oneCell') = true := by
  rw [Array.all_eq_true]
  intro i hi
  have := h.at_ i (by rw [← h.size h4]; exact hi)
  rw [Array.getElem?_eq_getElem hi] at this
  rw [Option.some.inj this]
  unfold cellF
  by_cases e0 : i = 0
  · rw [if_pos e0]; exact h0
  rw [if_neg e0]
  by_cases e1 : i = 1
  · rw [if_pos e1]; exact h1
  rw [if_neg e1]
  by_cases e2 : i = 2
  · rw [if_pos e2]; rfl
  rw [if_neg e2]
  by_cases e3 : i = 3
  · rw [if_pos e3]; rfl
  rw [if_neg e3]
  by_cases e4 : i = 4
  · rw [if_pos e4]; rfl
  rw [if_neg e4]
  by_cases e5 : i = 5
  · rw [if_pos e5]; exact h2
  rw [if_neg e5]
  by_cases e6 : i = 6
  · rw [if_pos e6]; exact h3
  rw [if_neg e6]
  by_cases e7 : i < 17
  · rw [if_pos e7]; rfl
  rw [if_neg e7]
  by_cases e8 : i < 401
  · rw [if_pos e8]; rfl
  rw [if_neg e8]
  by_cases e9 : i = 401
  · rw [if_pos e9]; rfl
  rw [if_neg e9]
  by_cases e10 : i = 402
  · rw [if_pos e10]; rfl
  rw [if_neg e10]
  by_cases e11 : i = 403
  · rw [if_pos e11]; rfl
  rw [if_neg e11]
  rfl

theorem info70 : (Try.prog.info? 77).map (fun i => (i.zero, i.size)) = some (some (.agg (rowOf (.slice none 0 0) (.slice none 0 0) (ms0 0))), 411) := by kernel_rfl
theorem built70_none : Try.prog.built 77 [] = some (rowOf (.slice none 0 0) (.slice none 0 0) (ms0 0)) := by kernel_rfl
theorem built70 (rv cv : Value) (fuel : Int) : Try.prog.built 77 [(0, .agg #[rv, cv]), (3, .int .i64 fuel)] = some (rowOf rv cv (ms0 fuel)) := by kernel_rfl

theorem results_row_tmp {P : Program} {fn : Func} {p u : Tmp} {ty : TypeId} (h : fn.results = #[.cell p ty, .tmp u]) (tmps : Array Value) (w : World) (g : Nat) (t : TypeId) (cs : Array Value) (fr : Nat × Nat) (d : TypeDesc)
    (hp : tmps.getD p undef = .pointer (some ⟨g, 0, none⟩)) (hg : w.heap[g]? = some (.cells cs t fr))
    (hu : P.underlying ty = some d) (hd : (match d with | .struct _ | .array _ _ => true | _ => false) = true) (hi : (P.info? ty).map (·.size) = some cs.size) :
    (results fn tmps).run P w = .ok (.tuple #[.agg cs, tmps.getD u undef]) w := by
  have hp' : tmps[p]?.getD undef = .pointer (some ⟨g, 0, none⟩) := by simpa using hp
  simp [results, h, hp', asAddr, run_loadVar_row w g t ty cs fr d hg hu hd hi]

theorem wp_copy_cells {P : Program} {o : Oper} {a : Act} {w : World} {K : Act → World → Prop} {Q : Exit → Act → World → Prop} (d s : Operand) (dT sT : TypeId)
    (ho : o.op = .call { callee := .builtin .copy, args := #[d, s], argTypes := #[dT, sT] }) (elem : TypeId) (hu : P.underlying dT = some (.slice elem)) (hsz : (P.info? elem).map (·.size) = some 1)
    (b off dLen dCap : Nat) (ad : Addr) (sLen sCap : Nat) (hd : a.eval d = .slice (some ⟨b, off, none⟩) dLen dCap) (hs : a.eval s = .slice (some ad) sLen sCap) (cs : List Value) (hn : cs.length = Nat.min sLen dLen)
    (hsrc : ∀ j v, cs[j]? = some v → w.cell? (ad.add j) = some v) (hc : ∀ j, j < cs.length → (w.cell? ⟨b, off + j, none⟩).isSome = true) (hf : ∀ j, j < cs.length → w.frozen? ⟨b, off + j, none⟩ = false) (h1 : ∀ v ∈ cs, v.oneCell' = true)
    (h : K (a.put o.dst (goInt cs.length)) (w.setCells b off cs)) : Oper.wp P o a w K Q := by
  have hrun := run_copy_cells (P := P) w dT sT o.type elem b off dLen dCap ad sLen sCap cs hu hsz hn hsrc hc hf h1
  unfold Oper.wp
  simp [execOp, ho, resolve, invoke, builtin, hd, hs, hrun, Result.andThen]
  exact h

def baseN (len : Nat → Nat) : Nat → Nat
  | 0 => 0
  | k + 1 => baseN len k + len k
theorem baseN_le (len : Nat → Nat) : ∀ k, (∀ j, j < k → len j ≤ 64) → baseN len k ≤ 64 * k
  | 0, _ => by simp [baseN]
  | k + 1, h => by
    have := baseN_le len k (fun j hj => h j (by omega))
    have := h k (by omega)
    simp only [baseN]
    omega
theorem baseN_mono (len : Nat → Nat) (a : Nat) : ∀ k, a ≤ k → baseN len a ≤ baseN len k
  | 0, h => by obtain rfl : a = 0 := by omega
               exact Nat.le_refl _
  | k + 1, h => by
    by_cases e : a = k + 1
    · subst e; exact Nat.le_refl _
    · have := baseN_mono len a k (by omega)
      simp only [baseN]
      omega

def intsN (f : Nat → Int) (n : Nat) : List Value := (List.range n).map fun j => .int .i64 (f j)
theorem intsN_length (f : Nat → Int) (n : Nat) : (intsN f n).length = n := by simp [intsN]
theorem intsN_at (f : Nat → Int) (n j : Nat) (h : j < n) : (intsN f n)[j]? = some (.int .i64 (f j)) := by simp [intsN, h]
theorem intsN_succ (f : Nat → Int) (n : Nat) : intsN f (n + 1) = .int .i64 (f 0) :: intsN (fun j => f (j + 1)) n := by simp [intsN, List.range_succ_eq_map]

theorem grown_setCells (M : Nat) : ∀ (vs : List Value) (o : Nat) (w : World), w.grownBy (w.setCells M o vs) (some M)
  | [], o, w => grown_refl _ _
  | v :: vs, o, w => grown_trans (grown_set w M o v) (grown_setCells M vs (o + 1) _)

theorem MAt.fill {M : Nat} {rv cv : Value} : ∀ (n : Nat) (f : Nat → Int) (k : Nat) (x : Ms) (w : World), MAt w M rv cv x → k + n ≤ 384 →
    ∃ W, MAt (w.setCells M (17 + k) (intsN f n)) M rv cv { x with wd := W } ∧ (∀ j, j < n → W (k + j) = f j) ∧ (∀ j, j < k → W j = x.wd j)
  | 0, f, k, x, w, h, _ => ⟨x.wd, h, fun j hj => by omega, fun j _ => rfl⟩
  | n + 1, f, k, x, w, h, hk => by
    obtain ⟨W, h1, h2, h3⟩ := MAt.fill n (fun j => f (j + 1)) (k + 1) { x with wd := setN x.wd k (f 0) } (w.setCell ⟨M, 17 + k, none⟩ (.int .i64 (f 0))) (h.setWd k (by omega) (f 0)) (by omega)
    refine ⟨W, ?_, fun j hj => ?_, fun j hj => ?_⟩
    · rw [intsN_succ]
      exact h1
    · cases j with
      | zero =>
        have := h3 k (by omega)
        dsimp only at this
        rw [Nat.add_zero, this]
        simp [setN]
      | succ j =>
        have := h2 j (by omega)
        rw [show k + (j + 1) = k + 1 + j by omega]
        exact this
    · have := h3 j (by omega)
      dsimp only at this
      rw [this]
      unfold setN
      rw [if_neg (by omega)]

/-- Where New stands: the words of so many regions are laid. -/
structure Nw (w wr : World) (rv cv : Value) (B : Nat) (m : Mem) (fuel : Int) (z : Array Value) (k : Nat) (W S : Nat → Int) : Prop where
  more : More w wr
  lo : w.heap.size + 2 ≤ B
  at_ : MAt wr B rv cv { ms0 fuel with wd := W, st := S }
  st : ∀ j, j ≤ k → S j = (baseN m.len j : Int)
  wd : ∀ j, j < k → ∀ i, i < m.len j → W (baseN m.len j + i) = m.wd j i
  res : wr.heap[w.heap.size + 1]? = some (.cells z 77 (0, 0))

theorem Nw.step {w wr : World} {rv cv : Value} {B : Nat} {m : Mem} {fuel : Int} {z : Array Value} {k : Nat} {W S : Nat → Int} (h : Nw w wr rv cv B m fuel z k W S) (hk : k < 6) (hle : baseN m.len (k + 1) ≤ 384) (n : Int) (hn : n = (baseN m.len (k + 1) : Int)) :
    ∃ W' S', Nw w (((wr.drew).setCells B (17 + baseN m.len k) (intsN (m.wd k) (m.len k))).setCell ⟨B, 404 + (k + 1), none⟩ (.int .i64 n)) rv cv B m fuel z (k + 1) W' S' := by
  subst hn
  obtain ⟨W', h1, h2, h3⟩ := MAt.fill (m.len k) (m.wd k) (baseN m.len k) _ wr.drew h.at_.drew (by simpa [baseN] using hle)
  have hlo := h.lo
  have g0 : wr.grownBy (((wr.drew).setCells B (17 + baseN m.len k) (intsN (m.wd k) (m.len k))).setCell ⟨B, 404 + (k + 1), none⟩ (.int .i64 (baseN m.len (k + 1) : Int))) (some B) :=
    gr_set (grown_trans (grown_drew wr _) (grown_setCells B _ _ _)) _ _
  refine ⟨W', setN S (k + 1) (baseN m.len (k + 1) : Int), h.more.grownBy g0 (fun b hb => by have := Option.some.inj hb; omega), h.lo, h1.setSt (k + 1) (by omega) _, fun j hj => ?_, fun j hj i hi => ?_, ?_⟩
  · unfold setN
    by_cases e : j = k + 1
    · rw [if_pos e, e]
    · rw [if_neg e]; exact h.st j (by omega)
  · by_cases e : j = k
    · subst e; exact h2 i hi
    · have hlt : baseN m.len j + i < baseN m.len k := by
        have := baseN_mono m.len (j + 1) k (by omega)
        simp only [baseN] at this
        omega
      rw [h3 _ hlt]
      exact h.wd j (by omega) i hi
  · have hsz : w.heap.size + 1 < wr.heap.size := by
      rcases Nat.lt_or_ge (w.heap.size + 1) wr.heap.size with h' | h'
      · exact h'
      · have := h.res
        rw [Array.getElem?_eq_none h'] at this
        cases this
    rw [g0.block (w.heap.size + 1) hsz (by simp; omega)]
    exact h.res
end Go.Proofs.Ytbfhchhggkpbdaa

/-
  One step of the machine, Do behind Begin: it is the step that chapter 3 says.
-/
namespace Go.Proofs.Ytbfhchhggkpbdaa
open Go.RowKit
set_option linter.unusedVariables false
set_option linter.unusedSimpArgs false

structure Wds (m mm : Mem) (x : Ms) : Prop where
  wd : ∀ c, c < m.ml → ∀ i, i < m.len c → x.wd (baseN m.len c + i) = mm.wd c i
  st : ∀ j, j ≤ m.ml → x.st j = (baseN m.len j : Int)
structure Rel (m : Mem) (fuel : Nat) (x : Ms) (s : St) (k : Nat) : Prop where
  r : x.r = s.r
  w : Wds m s.m x
  next : x.next = (s.at_ : Int)
  fin : x.fin = 0
  val : x.val = 0
  steps : x.steps = (k : Int)
  fuel : x.fuel = (fuel : Int)
  ended : x.ended = false
structure RelEnd (m mm : Mem) (x : Ms) (f v t : Int) : Prop where
  w : Wds m mm x
  fin : x.fin = f
  val : x.val = v
  steps : x.steps = t
  ended : x.ended = true

theorem base_eq (p : Prg) (m : Mem) (hlen : ∀ i, i < m.ml → (m.len i : Int) = wordsI (p.log i)) : ∀ j, j ≤ m.ml → (baseN m.len j : Int) = baseI p.log j
  | 0, _ => rfl
  | j + 1, h => by
    simp only [baseN, baseI]
    rw [← base_eq p m hlen j (by omega), ← hlen j (by omega)]
    push_cast
    rfl
theorem base_inj (len : Nat → Nat) {c c' i i' : Nat} (hi : i < len c) (hi' : i' < len c') (h : baseN len c + i = baseN len c' + i') : c = c' ∧ i = i' := by
  rcases Nat.lt_trichotomy c c' with h1 | h1 | h1
  · have := baseN_mono len (c + 1) c' h1
    simp only [baseN] at this
    omega
  · subst h1; exact ⟨rfl, by omega⟩
  · have := baseN_mono len (c' + 1) c h1
    simp only [baseN] at this
    omega

theorem Wds.set {m mm : Mem} {x : Ms} (h : Wds m mm x) (c i : Nat) (hc : c < m.ml) (hi : i < m.len c) (v : Int) (x' : Ms) (hx : x'.wd = setN x.wd (baseN m.len c + i) v) (hs : x'.st = x.st) : Wds m (setW mm c i v) x' := by
  refine ⟨fun c' hc' i' hi' => ?_, fun j hj => by rw [hs]; exact h.st j hj⟩
  rw [hx]
  unfold setN setW
  dsimp only
  by_cases e : baseN m.len c' + i' = baseN m.len c + i
  · obtain ⟨rfl, rfl⟩ := base_inj m.len hi' hi e
    rw [if_pos rfl, if_pos ⟨rfl, rfl⟩]
  · rw [if_neg e, if_neg (fun h => e (by rw [h.1, h.2]))]
    exact h.wd c' hc' i' hi'

/-- What a step comes to, in the machine. -/
def After (m : Mem) (fuel : Nat) (x' : Ms) (k : Nat) (q : St × Option (Int × Int)) : Prop :=
  match q.2 with
  | none => Rel m fuel x' q.1 k
  | some e => RelEnd m q.1.m x' e.1 e.2 (k : Int)

set_option maxHeartbeats 1000000 in
theorem seq_do (p : Prg) (m : Mem) (fuel : Nat) (s : St) (k : Nat) (x : Ms) (w : World) (M : Nat) (rv cv : Value) (hin : InsOk p.rl p.log p.cl 10 (p.ins s.at_)) (hrl : m.ml = p.rl) (hml : m.ml ≤ 6) (hlen : ∀ i, i < m.ml → (m.len i : Int) = wordsI (p.log i)) (hpos : ∀ i, i < m.ml → 0 < m.len i ∧ m.len i ≤ 64)
    (hs2 : ∀ j, s.m.len j = m.len j) (hl : s.seen.length ≤ 100000) (hR : Rel m fuel x ⟨s.at_ + 1, s.r, s.m, s.seen ++ [⟨1, s.at_, 0⟩]⟩ k) (h : Run w M rv cv x (s.seen ++ [⟨1, s.at_, 0⟩])) :
    Calls Try.prog 47 #[.pointer (some ⟨M, 0, none⟩), .agg #[.int .i64 (p.ins s.at_).op, .int .i64 (p.ins s.at_).a, .int .i64 (p.ins s.at_).b, .int .i64 (p.ins s.at_).c, .int .i64 (p.ins s.at_).n]] w fun e w' =>
      e = .returned (.tuple #[]) ∧ Below M w w' ∧ ∃ x', Run w' M rv cv x' (stepI p s).1.seen ∧ After m fuel x' k (stepI p s) := by
  have hl' : (s.seen ++ [(⟨1, s.at_, 0⟩ : Se)]).length ≤ 200000 := by simp; omega
  have ok : ∀ {x2 : Ms} {se2 : List Se}, (stepI p s).1.seen = se2 → After m fuel x2 k (stepI p s) → ∀ (e : Ending) (w' : World), (e = .returned (.tuple #[]) ∧ Run w' M rv cv x2 se2 ∧ Below M w w') → e = .returned (.tuple #[]) ∧ Below M w w' ∧ ∃ x', Run w' M rv cv x' (stepI p s).1.seen ∧ After m fuel x' k (stepI p s) := by
    rintro x2 se2 hse ha e w' ⟨rfl, r2, b2⟩
    exact ⟨rfl, b2, x2, by rw [hse]; exact r2, ha⟩
  have hr := hR.r
  dsimp only at hr
  cases hI : p.ins s.at_ with
  | mk op a b c n =>
  rw [hI] at hin
  dsimp only
  -- the four that take or put a word
  have word : ∀ (hop : op = 3 ∨ op = 4 ∨ op = 5 ∨ op = 6), 0 ≤ a ∧ a < 10 ∧ 0 ≤ b ∧ b < 10 ∧ 0 ≤ c ∧ c < p.rl := by
    intro hop
    unfold InsOk Reg Rgn at hin
    dsimp only at hin
    rcases hop with rfl | rfl | rfl | rfl <;> simp at hin <;> omega
  have bse : ∀ (hop : op = 3 ∨ op = 4 ∨ op = 5 ∨ op = 6), x.st c.toNat = (baseN m.len c.toNat : Int) ∧ x.st (c.toNat + 1) = (baseN m.len c.toNat : Int) + (m.len c.toNat : Int) ∧ baseN m.len c.toNat + m.len c.toNat ≤ 384 ∧ c.toNat < m.ml ∧ c < 6 := by
    intro hop
    have := word hop
    have hc : c.toNat < m.ml := by omega
    have h1 := hR.w.st c.toNat (by omega)
    have h2 := hR.w.st (c.toNat + 1) (by omega)
    have h3 := baseN_le m.len (c.toNat + 1) (fun j hj => (hpos j (by omega)).2)
    simp only [baseN] at h2 h3
    refine ⟨h1, by rw [h2]; push_cast; rfl, by omega, hc, by omega⟩
  by_cases h1 : op = 1
  · subst h1
    have ha : 0 ≤ a ∧ a < 10 := by unfold InsOk Reg at hin; simp at hin; exact hin.1
    have e : stepI p s = (⟨s.at_ + 1, setR s.r a n, s.m, s.seen ++ [⟨1, s.at_, 0⟩]⟩, none) := by simp [stepI, hI, putI, regsI]
    exact (do_1 a b c n w M rv cv x _ h ha.1 ha.2).mono (ok (by rw [e]) (by rw [e]; exact ⟨by rw [hr], ⟨hR.w.wd, hR.w.st⟩, hR.next, hR.fin, hR.val, hR.steps, hR.fuel, hR.ended⟩))
  by_cases h2 : op = 2
  · subst h2
    have ha : (0 ≤ a ∧ a < 10) ∧ (0 ≤ b ∧ b < 10) := by unfold InsOk Reg at hin; simp at hin; exact ⟨hin.1, hin.2.1⟩
    have e : stepI p s = (⟨s.at_ + 1, setR s.r a (s.r b.toNat), s.m, s.seen ++ [⟨1, s.at_, 0⟩]⟩, none) := by simp [stepI, hI, putI, regsI]
    exact (do_2 a b c n w M rv cv x _ h ha.1.1 ha.1.2 ha.2.1 ha.2.2).mono (ok (by rw [e]) (by rw [e]; exact ⟨by rw [hr], ⟨hR.w.wd, hR.w.st⟩, hR.next, hR.fin, hR.val, hR.steps, hR.fuel, hR.ended⟩))
  by_cases h10 : op = 10
  · subst h10
    have ha : (0 ≤ a ∧ a < 10) ∧ (0 ≤ b ∧ b < 10) := by unfold InsOk Reg at hin; simp at hin; exact ⟨hin.1, hin.2.1⟩
    have e : stepI p s = (⟨s.at_ + 1, setR s.r a (wrap64 (s.r b.toNat + n)), s.m, s.seen ++ [⟨1, s.at_, 0⟩]⟩, none) := by simp [stepI, hI, putI, regsI]
    exact (do_10 a b c n w M rv cv x _ h ha.1.1 ha.1.2 ha.2.1 ha.2.2).mono (ok (by rw [e]) (by rw [e]; exact ⟨by rw [hr], ⟨hR.w.wd, hR.w.st⟩, hR.next, hR.fin, hR.val, hR.steps, hR.fuel, hR.ended⟩))
  by_cases h12 : op = 12
  · subst h12
    have ha : a = 0 := by unfold InsOk at hin; simp at hin; exact hin.1
    have e : stepI p s = (⟨s.at_ + 1, s.r, s.m, s.seen ++ [⟨1, s.at_, 0⟩]⟩, none) := by simp [stepI, hI, putI, regsI]
    exact (do_12 a b c n w M rv cv x _ h (by omega) (by omega)).mono (ok (by rw [e]) (by rw [e]; exact ⟨hr, ⟨hR.w.wd, hR.w.st⟩, hR.next, hR.fin, hR.val, hR.steps, hR.fuel, hR.ended⟩))
  by_cases h7 : op = 7
  · subst h7
    have ha : a = 0 ∧ 0 ≤ n := by unfold InsOk Plc at hin; simp at hin; exact ⟨hin.1, hin.2.2.2.1⟩
    have e : stepI p s = (⟨n.toNat, s.r, s.m, s.seen ++ [⟨1, s.at_, 0⟩]⟩, none) := by simp [stepI, hI]
    exact (do_7 a b c n w M rv cv x _ h (by omega) (by omega)).mono (ok (by rw [e]) (by rw [e]; exact ⟨hr, ⟨hR.w.wd, hR.w.st⟩, (show n = ((n.toNat : Nat) : Int) by omega), hR.fin, hR.val, hR.steps, hR.fuel, hR.ended⟩))
  by_cases h8 : op = 8
  · subst h8
    have ha : (0 ≤ a ∧ a < 10) ∧ (0 ≤ b ∧ b < 10) ∧ 0 ≤ n := by unfold InsOk Reg Plc at hin; simp at hin; exact ⟨hin.1, hin.2.1, hin.2.2.2.1⟩
    cases hh : holdsI c (s.r a.toNat) (s.r b.toNat) with
    | true =>
      have e : stepI p s = (⟨n.toNat, s.r, s.m, s.seen ++ [⟨1, s.at_, 0⟩]⟩, none) := by simp [stepI, hI, hh]
      exact (do_8y a b c n w M rv cv x _ h ha.1.1 ha.1.2 ha.2.1.1 ha.2.1.2 (by rw [hr]; exact hh)).mono (ok (by rw [e]) (by rw [e]; exact ⟨hr, ⟨hR.w.wd, hR.w.st⟩, (show n = ((n.toNat : Nat) : Int) by omega), hR.fin, hR.val, hR.steps, hR.fuel, hR.ended⟩))
    | false =>
      have e : stepI p s = (⟨s.at_ + 1, s.r, s.m, s.seen ++ [⟨1, s.at_, 0⟩]⟩, none) := by simp [stepI, hI, hh]
      exact (do_8n a b c n w M rv cv x _ h ha.1.1 ha.1.2 ha.2.1.1 ha.2.1.2 (by rw [hr]; exact hh)).mono (ok (by rw [e]) (by rw [e]; exact ⟨hr, ⟨hR.w.wd, hR.w.st⟩, hR.next, hR.fin, hR.val, hR.steps, hR.fuel, hR.ended⟩))
  by_cases h9 : op = 9
  · subst h9
    have ha : 0 ≤ a ∧ a < 10 := by unfold InsOk Reg at hin; simp at hin; exact hin.1
    have e : stepI p s = (⟨s.at_ + 1, s.r, s.m, s.seen ++ [⟨1, s.at_, 0⟩]⟩, some (1, s.r a.toNat)) := by simp [stepI, hI]
    exact (do_9 a b c n w M rv cv x _ h ha.1 ha.2).mono (ok (by rw [e]) (by rw [e]; exact ⟨⟨hR.w.wd, hR.w.st⟩, rfl, by rw [hr], hR.steps, rfl⟩))
  by_cases h11 : op = 11
  · subst h11
    have ha : 0 ≤ a ∧ a < 10 := by unfold InsOk Reg at hin; simp at hin; exact hin.1
    by_cases lo : s.r a.toNat < 0
    · have e : stepI p s = (⟨s.at_ + 1, setR s.r a 0, s.m, s.seen ++ [⟨1, s.at_, 0⟩]⟩, none) := by simp [stepI, hI, putI, regsI, lo]
      exact (do_11lo a b c n _ w M rv cv x _ h ha.1 ha.2 rfl (by rw [hr]; exact lo)).mono (ok (by rw [e]) (by rw [e]; exact ⟨by rw [hr], ⟨hR.w.wd, hR.w.st⟩, hR.next, hR.fin, hR.val, hR.steps, hR.fuel, hR.ended⟩))
    · by_cases hi : n ≤ s.r a.toNat
      · have e : stepI p s = (⟨s.at_ + 1, setR s.r a 0, s.m, s.seen ++ [⟨1, s.at_, 0⟩]⟩, none) := by simp [stepI, hI, putI, regsI, hi]
        exact (do_11hi a b c n _ w M rv cv x _ h ha.1 ha.2 rfl (by rw [hr]; exact lo) (by rw [hr]; exact hi)).mono (ok (by rw [e]) (by rw [e]; exact ⟨by rw [hr], ⟨hR.w.wd, hR.w.st⟩, hR.next, hR.fin, hR.val, hR.steps, hR.fuel, hR.ended⟩))
      · have e : stepI p s = (⟨s.at_ + 1, s.r, s.m, s.seen ++ [⟨1, s.at_, 0⟩]⟩, none) := by simp [stepI, hI, putI, regsI, lo, hi]
        exact (do_11in a b c n _ w M rv cv x _ h ha.1 ha.2 rfl (by rw [hr]; exact lo) (by rw [hr]; omega)).mono (ok (by rw [e]) (by rw [e]; exact ⟨hr, ⟨hR.w.wd, hR.w.st⟩, hR.next, hR.fin, hR.val, hR.steps, hR.fuel, hR.ended⟩))
  by_cases h3 : op = 3
  · subst h3
    have hw := word (by omega)
    have hbs := bse (by omega)
    have hb3 := base_eq p m hlen c.toNat (by omega)
    have hli := hs2 c.toNat
    by_cases hx : 0 ≤ idxI s.r ⟨3, a, b, c, n⟩ ∧ idxI s.r ⟨3, a, b, c, n⟩ < (m.len c.toNat : Int)
    · have e : stepI p s = (⟨s.at_ + 1, setR s.r a (s.m.wd c.toNat (idxI s.r ⟨3, a, b, c, n⟩).toNat), s.m, s.seen ++ [⟨1, s.at_, 0⟩] ++ [⟨2, baseI p.log c.toNat + idxI s.r ⟨3, a, b, c, n⟩, 0⟩]⟩, none) := by
        have g1 : ¬ (idxI s.r ⟨3, a, b, c, n⟩ < 0 ∨ (s.m.len c.toNat : Int) ≤ idxI s.r ⟨3, a, b, c, n⟩) := by rw [hli]; omega
        unfold stepI
        rw [hI]
        dsimp only
        rw [if_neg (by decide), if_neg (by decide), if_neg (by decide), if_pos (by simp [putI]), if_neg g1]
        simp [putI]
      have hk2 : ((baseN m.len c.toNat : Int) + idxI s.r ⟨3, a, b, c, n⟩).toNat = baseN m.len c.toNat + (idxI s.r ⟨3, a, b, c, n⟩).toNat := by omega
      have hse : x.st c.toNat + idxI x.r ⟨3, a, b, c, n⟩ = (baseN m.len c.toNat : Int) + idxI s.r ⟨3, a, b, c, n⟩ := by rw [hbs.1, hr]
      refine (do_3_there a b c n ((baseN m.len c.toNat : Int) + idxI s.r ⟨3, a, b, c, n⟩) w M rv cv x _ h hw.1 hw.2.1 _ (by omega) (by omega) (fun w1 m1 => ?_)).mono (ok (se2 := s.seen ++ [⟨1, s.at_, 0⟩] ++ [⟨2, (baseN m.len c.toNat : Int) + idxI s.r ⟨3, a, b, c, n⟩, 0⟩]) (by rw [e, hb3]) (by rw [e]; exact ⟨by rw [hr, hk2]; exact congrArg (setR s.r a) (hR.w.wd c.toNat hbs.2.2.2.1 _ (by omega)), ⟨hR.w.wd, hR.w.st⟩, hR.next, hR.fin, hR.val, hR.steps, hR.fuel, hR.ended⟩))
      have hq := seq_reach_there ⟨3, a, b, c, n⟩ 0 w1 M rv cv x _ (h.more m1) hl' (by simp) hw.2.2.1 hw.2.2.2.1 hw.2.2.2.2.1 hbs.2.2.2.2 (by dsimp only; omega) (by dsimp only; omega) (by dsimp only; omega) (by dsimp only; rw [hr, hbs.1, hbs.2.1]; omega)
      dsimp only at hq
      rw [hse] at hq
      exact hq
    · have e : stepI p s = (⟨s.at_ + 1, s.r, s.m, s.seen ++ [⟨1, s.at_, 0⟩]⟩, some (2, 0)) := by
        have g1 : idxI s.r ⟨3, a, b, c, n⟩ < 0 ∨ (s.m.len c.toNat : Int) ≤ idxI s.r ⟨3, a, b, c, n⟩ := by rw [hli]; omega
        unfold stepI
        rw [hI]
        dsimp only
        rw [if_neg (by decide), if_neg (by decide), if_neg (by decide), if_pos (by simp [putI]), if_pos g1]
      refine (do_3_not a b c n w M rv cv x _ h hw.1 hw.2.1 { x with fin := 2, ended := true } (fun w1 m1 => ?_)).mono (ok (by rw [e]) (by rw [e]; exact ⟨⟨hR.w.wd, hR.w.st⟩, rfl, hR.val, hR.steps, rfl⟩))
      exact seq_reach_not ⟨3, a, b, c, n⟩ 0 w1 M rv cv x _ (h.more m1) (by simp) hw.2.2.1 hw.2.2.2.1 hw.2.2.2.2.1 hbs.2.2.2.2 (by dsimp only; omega) (by dsimp only; omega) (by dsimp only; omega) (by dsimp only; rw [hr, hbs.1, hbs.2.1]; omega)
  by_cases h5 : op = 5
  · subst h5
    have hw := word (by omega)
    have hbs := bse (by omega)
    have hb3 := base_eq p m hlen c.toNat (by omega)
    have hli := hs2 c.toNat
    by_cases hx : 0 ≤ idxI s.r ⟨5, a, b, c, n⟩ ∧ idxI s.r ⟨5, a, b, c, n⟩ < (m.len c.toNat : Int)
    · have e : stepI p s = (⟨s.at_ + 1, setR s.r a (s.m.wd c.toNat (idxI s.r ⟨5, a, b, c, n⟩).toNat), s.m, s.seen ++ [⟨1, s.at_, 0⟩] ++ [⟨2, baseI p.log c.toNat + idxI s.r ⟨5, a, b, c, n⟩, 0⟩]⟩, none) := by
        have g1 : ¬ (idxI s.r ⟨5, a, b, c, n⟩ < 0 ∨ (s.m.len c.toNat : Int) ≤ idxI s.r ⟨5, a, b, c, n⟩) := by rw [hli]; omega
        unfold stepI
        rw [hI]
        dsimp only
        rw [if_neg (by decide), if_neg (by decide), if_neg (by decide), if_pos (by simp [putI]), if_neg g1]
        simp [putI]
      have hk2 : ((baseN m.len c.toNat : Int) + idxI s.r ⟨5, a, b, c, n⟩).toNat = baseN m.len c.toNat + (idxI s.r ⟨5, a, b, c, n⟩).toNat := by omega
      have hse : x.st c.toNat + idxI x.r ⟨5, a, b, c, n⟩ = (baseN m.len c.toNat : Int) + idxI s.r ⟨5, a, b, c, n⟩ := by rw [hbs.1, hr]
      refine (do_5_there a b c n ((baseN m.len c.toNat : Int) + idxI s.r ⟨5, a, b, c, n⟩) w M rv cv x _ h hw.1 hw.2.1 _ (by omega) (by omega) (fun w1 m1 => ?_)).mono (ok (se2 := s.seen ++ [⟨1, s.at_, 0⟩] ++ [⟨2, (baseN m.len c.toNat : Int) + idxI s.r ⟨5, a, b, c, n⟩, 0⟩]) (by rw [e, hb3]) (by rw [e]; exact ⟨by rw [hr, hk2]; exact congrArg (setR s.r a) (hR.w.wd c.toNat hbs.2.2.2.1 _ (by omega)), ⟨hR.w.wd, hR.w.st⟩, hR.next, hR.fin, hR.val, hR.steps, hR.fuel, hR.ended⟩))
      have hq := seq_reach_there ⟨5, a, b, c, n⟩ 0 w1 M rv cv x _ (h.more m1) hl' (by simp) hw.2.2.1 hw.2.2.2.1 hw.2.2.2.2.1 hbs.2.2.2.2 (by dsimp only; omega) (by dsimp only; omega) (by dsimp only; omega) (by dsimp only; rw [hr, hbs.1, hbs.2.1]; omega)
      dsimp only at hq
      rw [hse] at hq
      exact hq
    · have e : stepI p s = (⟨s.at_ + 1, s.r, s.m, s.seen ++ [⟨1, s.at_, 0⟩]⟩, some (2, 0)) := by
        have g1 : idxI s.r ⟨5, a, b, c, n⟩ < 0 ∨ (s.m.len c.toNat : Int) ≤ idxI s.r ⟨5, a, b, c, n⟩ := by rw [hli]; omega
        unfold stepI
        rw [hI]
        dsimp only
        rw [if_neg (by decide), if_neg (by decide), if_neg (by decide), if_pos (by simp [putI]), if_pos g1]
      refine (do_5_not a b c n w M rv cv x _ h hw.1 hw.2.1 { x with fin := 2, ended := true } (fun w1 m1 => ?_)).mono (ok (by rw [e]) (by rw [e]; exact ⟨⟨hR.w.wd, hR.w.st⟩, rfl, hR.val, hR.steps, rfl⟩))
      exact seq_reach_not ⟨5, a, b, c, n⟩ 0 w1 M rv cv x _ (h.more m1) (by simp) hw.2.2.1 hw.2.2.2.1 hw.2.2.2.2.1 hbs.2.2.2.2 (by dsimp only; omega) (by dsimp only; omega) (by dsimp only; omega) (by dsimp only; rw [hr, hbs.1, hbs.2.1]; omega)
  by_cases h4 : op = 4
  · subst h4
    have hw := word (by omega)
    have hbs := bse (by omega)
    have hb3 := base_eq p m hlen c.toNat (by omega)
    have hli := hs2 c.toNat
    by_cases hx : 0 ≤ idxI s.r ⟨4, a, b, c, n⟩ ∧ idxI s.r ⟨4, a, b, c, n⟩ < (m.len c.toNat : Int)
    · have e : stepI p s = (⟨s.at_ + 1, s.r, setW s.m c.toNat (idxI s.r ⟨4, a, b, c, n⟩).toNat (s.r a.toNat), s.seen ++ [⟨1, s.at_, 0⟩] ++ [⟨2, baseI p.log c.toNat + idxI s.r ⟨4, a, b, c, n⟩, 1⟩]⟩, none) := by
        have g1 : ¬ (idxI s.r ⟨4, a, b, c, n⟩ < 0 ∨ (s.m.len c.toNat : Int) ≤ idxI s.r ⟨4, a, b, c, n⟩) := by rw [hli]; omega
        unfold stepI
        rw [hI]
        dsimp only
        rw [if_neg (by decide), if_neg (by decide), if_neg (by decide), if_pos (by simp [putI]), if_neg g1]
        simp [putI]
      have hk2 : ((baseN m.len c.toNat : Int) + idxI s.r ⟨4, a, b, c, n⟩).toNat = baseN m.len c.toNat + (idxI s.r ⟨4, a, b, c, n⟩).toNat := by omega
      have hse : x.st c.toNat + idxI x.r ⟨4, a, b, c, n⟩ = (baseN m.len c.toNat : Int) + idxI s.r ⟨4, a, b, c, n⟩ := by rw [hbs.1, hr]
      refine (do_4_there a b c n ((baseN m.len c.toNat : Int) + idxI s.r ⟨4, a, b, c, n⟩) w M rv cv x _ h hw.1 hw.2.1 _ (by omega) (by omega) (fun w1 m1 => ?_)).mono (ok (se2 := s.seen ++ [⟨1, s.at_, 0⟩] ++ [⟨2, (baseN m.len c.toNat : Int) + idxI s.r ⟨4, a, b, c, n⟩, 1⟩]) (by rw [e, hb3]) (by rw [e]; exact ⟨hr, hR.w.set c.toNat (idxI s.r ⟨4, a, b, c, n⟩).toNat hbs.2.2.2.1 (by omega) (s.r a.toNat) _ (by rw [hk2, hr]) rfl, hR.next, hR.fin, hR.val, hR.steps, hR.fuel, hR.ended⟩))
      have hq := seq_reach_there ⟨4, a, b, c, n⟩ 1 w1 M rv cv x _ (h.more m1) hl' (by simp) hw.2.2.1 hw.2.2.2.1 hw.2.2.2.2.1 hbs.2.2.2.2 (by dsimp only; omega) (by dsimp only; omega) (by dsimp only; omega) (by dsimp only; rw [hr, hbs.1, hbs.2.1]; omega)
      dsimp only at hq
      rw [hse] at hq
      exact hq
    · have e : stepI p s = (⟨s.at_ + 1, s.r, s.m, s.seen ++ [⟨1, s.at_, 0⟩]⟩, some (2, 0)) := by
        have g1 : idxI s.r ⟨4, a, b, c, n⟩ < 0 ∨ (s.m.len c.toNat : Int) ≤ idxI s.r ⟨4, a, b, c, n⟩ := by rw [hli]; omega
        unfold stepI
        rw [hI]
        dsimp only
        rw [if_neg (by decide), if_neg (by decide), if_neg (by decide), if_pos (by simp [putI]), if_pos g1]
      refine (do_4_not a b c n w M rv cv x _ h hw.1 hw.2.1 { x with fin := 2, ended := true } (fun w1 m1 => ?_)).mono (ok (by rw [e]) (by rw [e]; exact ⟨⟨hR.w.wd, hR.w.st⟩, rfl, hR.val, hR.steps, rfl⟩))
      exact seq_reach_not ⟨4, a, b, c, n⟩ 1 w1 M rv cv x _ (h.more m1) (by simp) hw.2.2.1 hw.2.2.2.1 hw.2.2.2.2.1 hbs.2.2.2.2 (by dsimp only; omega) (by dsimp only; omega) (by dsimp only; omega) (by dsimp only; rw [hr, hbs.1, hbs.2.1]; omega)
  by_cases h6 : op = 6
  · subst h6
    have hw := word (by omega)
    have hbs := bse (by omega)
    have hb3 := base_eq p m hlen c.toNat (by omega)
    have hli := hs2 c.toNat
    by_cases hx : 0 ≤ idxI s.r ⟨6, a, b, c, n⟩ ∧ idxI s.r ⟨6, a, b, c, n⟩ < (m.len c.toNat : Int)
    · have e : stepI p s = (⟨s.at_ + 1, s.r, setW s.m c.toNat (idxI s.r ⟨6, a, b, c, n⟩).toNat (s.r a.toNat), s.seen ++ [⟨1, s.at_, 0⟩] ++ [⟨2, baseI p.log c.toNat + idxI s.r ⟨6, a, b, c, n⟩, 1⟩]⟩, none) := by
        have g1 : ¬ (idxI s.r ⟨6, a, b, c, n⟩ < 0 ∨ (s.m.len c.toNat : Int) ≤ idxI s.r ⟨6, a, b, c, n⟩) := by rw [hli]; omega
        unfold stepI
        rw [hI]
        dsimp only
        rw [if_neg (by decide), if_neg (by decide), if_neg (by decide), if_pos (by simp [putI]), if_neg g1]
        simp [putI]
      have hk2 : ((baseN m.len c.toNat : Int) + idxI s.r ⟨6, a, b, c, n⟩).toNat = baseN m.len c.toNat + (idxI s.r ⟨6, a, b, c, n⟩).toNat := by omega
      have hse : x.st c.toNat + idxI x.r ⟨6, a, b, c, n⟩ = (baseN m.len c.toNat : Int) + idxI s.r ⟨6, a, b, c, n⟩ := by rw [hbs.1, hr]
      refine (do_6_there a b c n ((baseN m.len c.toNat : Int) + idxI s.r ⟨6, a, b, c, n⟩) w M rv cv x _ h hw.1 hw.2.1 _ (by omega) (by omega) (fun w1 m1 => ?_)).mono (ok (se2 := s.seen ++ [⟨1, s.at_, 0⟩] ++ [⟨2, (baseN m.len c.toNat : Int) + idxI s.r ⟨6, a, b, c, n⟩, 1⟩]) (by rw [e, hb3]) (by rw [e]; exact ⟨hr, hR.w.set c.toNat (idxI s.r ⟨6, a, b, c, n⟩).toNat hbs.2.2.2.1 (by omega) (s.r a.toNat) _ (by rw [hk2, hr]) rfl, hR.next, hR.fin, hR.val, hR.steps, hR.fuel, hR.ended⟩))
      have hq := seq_reach_there ⟨6, a, b, c, n⟩ 1 w1 M rv cv x _ (h.more m1) hl' (by simp) hw.2.2.1 hw.2.2.2.1 hw.2.2.2.2.1 hbs.2.2.2.2 (by dsimp only; omega) (by dsimp only; omega) (by dsimp only; omega) (by dsimp only; rw [hr, hbs.1, hbs.2.1]; omega)
      dsimp only at hq
      rw [hse] at hq
      exact hq
    · have e : stepI p s = (⟨s.at_ + 1, s.r, s.m, s.seen ++ [⟨1, s.at_, 0⟩]⟩, some (2, 0)) := by
        have g1 : idxI s.r ⟨6, a, b, c, n⟩ < 0 ∨ (s.m.len c.toNat : Int) ≤ idxI s.r ⟨6, a, b, c, n⟩ := by rw [hli]; omega
        unfold stepI
        rw [hI]
        dsimp only
        rw [if_neg (by decide), if_neg (by decide), if_neg (by decide), if_pos (by simp [putI]), if_pos g1]
      refine (do_6_not a b c n w M rv cv x _ h hw.1 hw.2.1 { x with fin := 2, ended := true } (fun w1 m1 => ?_)).mono (ok (by rw [e]) (by rw [e]; exact ⟨⟨hR.w.wd, hR.w.st⟩, rfl, hR.val, hR.steps, rfl⟩))
      exact seq_reach_not ⟨6, a, b, c, n⟩ 1 w1 M rv cv x _ (h.more m1) (by simp) hw.2.2.1 hw.2.2.2.1 hw.2.2.2.2.1 hbs.2.2.2.2 (by dsimp only; omega) (by dsimp only; omega) (by dsimp only; omega) (by dsimp only; rw [hr, hbs.1, hbs.2.1]; omega)
  have ho : (21 ≤ op ∧ op ≤ 30) ∧ (0 ≤ a ∧ a < 10) ∧ (0 ≤ b ∧ b < 10) ∧ (0 ≤ c ∧ c < 10) := by
    unfold InsOk Reg at hin
    dsimp only at hin
    rw [if_neg h1, if_neg h2, if_neg h3, if_neg h4, if_neg h5, if_neg h6, if_neg h7, if_neg h8, if_neg h9, if_neg h10, if_neg h11, if_neg h12] at hin
    exact ⟨hin.1, hin.2.1, hin.2.2.1, hin.2.2.2.1⟩
  have hput : putI ⟨op, a, b, c, n⟩ = -1 := by unfold putI; dsimp only; rw [if_neg (by omega), if_neg (by omega)]
  have e0 : stepI p s = (⟨s.at_ + 1, (regsI s.r ⟨op, a, b, c, n⟩).1, s.m, s.seen ++ [⟨1, s.at_, 0⟩] ++ (regsI s.r ⟨op, a, b, c, n⟩).2⟩, none) := by
    unfold stepI
    rw [hI]
    dsimp only
    rw [if_neg h7, if_neg h8, if_neg h9, hput, if_neg (by decide)]
  have er : regsI s.r ⟨op, a, b, c, n⟩ = (setR s.r a (opI (op - 20) (s.r b.toNat) (s.r c.toNat)), if op = 29 ∨ op = 30 then [⟨3, s.r b.toNat, s.r c.toNat⟩] else []) := by
    unfold regsI
    dsimp only
    rw [if_neg h1, if_neg h2, if_neg h10, if_neg h11, if_neg h12]
  rw [er] at e0
  have haf : After m fuel { x with r := setR x.r a (opI (op - 20) (x.r b.toNat) (x.r c.toNat)) } k (stepI p s) := by
    rw [e0]
    exact ⟨by dsimp only; rw [hr], ⟨hR.w.wd, hR.w.st⟩, hR.next, hR.fin, hR.val, hR.steps, hR.fuel, hR.ended⟩
  by_cases h29 : op = 29
  · subst h29
    refine (do_op 29 a b c n w M rv cv x _ h ho.2.1.1 ho.2.1.2 _ _ (by omega) (fun w1 m1 => seq_operate_29 a b c n w1 M rv cv x _ (h.more m1) hl' ho.2.1.1 ho.2.1.2 ho.2.2.1.1 ho.2.2.1.2 ho.2.2.2.1 ho.2.2.2.2)).mono (ok (by rw [e0, hr]; simp) haf)
  by_cases h30 : op = 30
  · subst h30
    refine (do_op 30 a b c n w M rv cv x _ h ho.2.1.1 ho.2.1.2 _ _ (by omega) (fun w1 m1 => seq_operate_30 a b c n w1 M rv cv x _ (h.more m1) hl' ho.2.1.1 ho.2.1.2 ho.2.2.1.1 ho.2.2.1.2 ho.2.2.2.1 ho.2.2.2.2)).mono (ok (by rw [e0, hr]; simp) haf)
  refine (do_op op a b c n w M rv cv x _ h ho.2.1.1 ho.2.1.2 _ _ ho.1.1 (fun w1 m1 => seq_operate_no op a b c n w1 M rv cv x _ (h.more m1) ho.1.1 ho.1.2 h29 h30 ho.2.1.1 ho.2.1.2 ho.2.2.1.1 ho.2.2.1.2 ho.2.2.2.1 ho.2.2.2.2)).mono (ok (by rw [e0]; simp [h29, h30]) haf)
end Go.Proofs.Ytbfhchhggkpbdaa
