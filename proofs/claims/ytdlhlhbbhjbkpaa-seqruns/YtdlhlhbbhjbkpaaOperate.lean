/-
  What the machine's Holds and operate come to.
-/
import Derived.Test.YtdlhlhbbhjbkpaaMeth
import Derived.Test.YtdlhlhbbhjbkpaaNumAll
namespace Go.Proofs.Ytdlhlhbbhjbkpaa
open Go.RowKit
set_option linter.unusedVariables false
set_option linter.unusedSimpArgs false

set_option maxHeartbeats 400000 in
theorem seq_holds (op a b c n x y : Int) (w : World) (M : Nat) (a0 : 0 ≤ a) (a1 : a < 10) (b0 : 0 ≤ b) (b1 : b < 10)
    (hx : w.cell? ⟨M, 7 + a.toNat, none⟩ = some (.int .i64 x)) (hy : w.cell? ⟨M, 7 + b.toNat, none⟩ = some (.int .i64 y)) (hM : M < w.heap.size) :
    Calls Try.prog 60 #[.pointer (some ⟨M, 0, none⟩), .agg #[.int .i64 op, .int .i64 a, .int .i64 b, .int .i64 c, .int .i64 n]] w fun e w' => e = .returned (.bool (holdsI c x y)) ∧ More w w' := by
  have hn : ¬ M = w.heap.size := by omega
  have hn' : ¬ w.heap.size = M := by omega
  have Hh : Hid (∀ w : World, Calls Try.prog 11 #[.int .i64 c, .int .i64 x, .int .i64 y] w fun e w' => e = .returned (.bool (holdsI c x y)) ∧ More w w') := fun w => (holds_calls c x y w).mono (by rintro e w' ⟨rfl, rfl⟩; exact ⟨rfl, (More.refl _).alloc _ _⟩)
  obtain ⟨h, hh⟩ : ∃ h, holdsI c x y = h := ⟨_, rfl⟩
  rw [hh] at Hh ⊢
  clear hh
  obtain ⟨S, HS⟩ : ∃ S : World → Prop, Hid (∀ w', S w' ↔ More (w.alloc (.cells #[.int .i64 op, .int .i64 a, .int .i64 b, .int .i64 c, .int .i64 n] 34)) w') := ⟨_, fun _ => Iff.rfl⟩
  have k1 : ∀ i : { w' // S w' }, i.val.cell? ⟨w.heap.size, 1, none⟩ = some (.int .i64 a) := fun i => ((HS.out _).1 i.property).cell (by go_simp)
  have k2 : ∀ i : { w' // S w' }, i.val.cell? ⟨w.heap.size, 2, none⟩ = some (.int .i64 b) := fun i => ((HS.out _).1 i.property).cell (by go_simp)
  have k3 : ∀ i : { w' // S w' }, i.val.cell? ⟨w.heap.size, 3, none⟩ = some (.int .i64 c) := fun i => ((HS.out _).1 i.property).cell (by go_simp)
  have ka : ∀ i : { w' // S w' }, i.val.cell? ⟨M, 7 + a.toNat, none⟩ = some (.int .i64 x) := fun i => ((HS.out _).1 i.property).cell (by go_simp)
  have kb : ∀ i : { w' // S w' }, i.val.cell? ⟨M, 7 + b.toNat, none⟩ = some (.int .i64 y) := fun i => ((HS.out _).1 i.property).cell (by go_simp)
  have hne : Nonempty { w' // S w' } := ⟨⟨_, (HS.out _).2 (More.refl _)⟩⟩
  go_enter Try.func60, Try.ntmps60
  go_wp2_with (fail)
  refine wp_region_ord (S := S) [(0, true), (1, true), (2, true), (3, true), (4, true), (5, true), (6, true), (7, true), (8, true), (9, true), (10, true), (11, true), (12, true), (13, true), (14, true), (15, true), (16, true), (17, true), (18, false), (19, true)] (by kernel_rfl) (by kernel_rfl) (by kernel_rfl) ((HS.out _).2 (More.refl _).drew) ?_
  iterate 18 (refine wpOrd_take rfl (by kernel_rfl) (fun K hK => ?_); go_simp; refine hK _ _ ?_; clear hK K)
  refine wpOrd_busy rfl (by kernel_rfl) (fun K hK => ?_); go_simp
  refine (Hh.out _).mono ?_
  rintro e w5 ⟨rfl, m5⟩
  have Hm5 : Hid (More (w.alloc (.cells #[.int .i64 op, .int .i64 a, .int .i64 b, .int .i64 c, .int .i64 n] 34)) w5) := (More.refl _).drew.trans m5
  clear m5
  go_simp
  refine hK _ _ ((HS.out _).2 Hm5.out) ?_; clear hK K
  refine wpOrd_take rfl (by kernel_rfl) (fun K hK => ?_); go_simp; refine hK _ _ ?_; clear hK K
  refine wpOrd_done ?_
  clear k1 k2 k3 ka kb hne
  go_wp2
  go_ret
  exact ⟨rfl, ((More.refl _).alloc _ _).trans Hm5.out⟩

theorem setRow_eq (r : Nat → Int) (a v : Int) : setN r a.toNat v = setR r a v := rfl

set_option maxHeartbeats 400000 in
theorem seq_operate_no (op a b c n : Int) (w : World) (M : Nat) (rv cv : Value) (x : Ms) (se : List Se) (h : Run w M rv cv x se) (o0 : 21 ≤ op) (o1 : op ≤ 30) (h9 : ¬ op = 29) (h10 : ¬ op = 30) (a0 : 0 ≤ a) (a1 : a < 10) (b0 : 0 ≤ b) (b1 : b < 10) (c0 : 0 ≤ c) (c1 : c < 10) :
    Calls Try.prog 61 #[.pointer (some ⟨M, 0, none⟩), .agg #[.int .i64 op, .int .i64 a, .int .i64 b, .int .i64 c, .int .i64 n]] w fun e w' =>
      e = .returned (.tuple #[]) ∧ Run w' M rv cv { x with r := setR x.r a (opI (op - 20) (x.r b.toNat) (x.r c.toNat)) } se ∧ Below M w w' := by
  have hM := h.lt
  have hn : ¬ M = w.heap.size := by omega
  have hn' : ¬ w.heap.size = M := by omega
  have hw : wrap64 (op - 20) = op - 20 := by unfold wrap64; omega
  have hwr := wrapEq
  have t9 : (op - 20 == 9) = false := by simp; omega
  have t10 : (op - 20 == 10) = false := by simp; omega
  have t9' : ¬ op - 20 = 9 := by omega
  have t10' : ¬ op - 20 = 10 := by omega
  obtain ⟨ya, fa⟩ := h.r a.toNat (by omega)
  have yb := (h.r b.toNat (by omega)).1
  have yc := (h.r c.toNat (by omega)).1
  obtain ⟨y, hy⟩ : ∃ y, x.r b.toNat = y := ⟨_, rfl⟩
  obtain ⟨z, hz⟩ : ∃ z, x.r c.toNat = z := ⟨_, rfl⟩
  rw [hy] at yb ⊢
  rw [hz] at yc ⊢
  have Hh : Hid (∀ w : World, Calls Try.prog 10 #[.int .i64 (op - 20), .int .i64 y, .int .i64 z] w fun e w' => e = .returned (.int .i64 (opI (op - 20) y z)) ∧ w' = w) := fun w => op_calls _ _ _ w
  obtain ⟨q, hq⟩ : ∃ q, opI (op - 20) y z = q := ⟨_, rfl⟩
  rw [hq] at Hh ⊢
  have H : Hid (Run w M rv cv x se) := h
  have Ha : Hid (a.toNat < 10) := (by omega : a.toNat < 10)
  clear hq hy hz h
  obtain ⟨S, HS⟩ : ∃ S : World → Prop, Hid (∀ w', S w' ↔ w'.cell? ⟨w.heap.size, 1, none⟩ = some (.int .i64 a)) := ⟨_, fun _ => Iff.rfl⟩
  have k1 : ∀ i : { w' // S w' }, i.val.cell? ⟨w.heap.size, 1, none⟩ = some (.int .i64 a) := fun i => (HS.out _).1 i.property
  have hne : Nonempty { w' // S w' } := ⟨⟨w.alloc (.cells #[.int .i64 op, .int .i64 a, .int .i64 b, .int .i64 c, .int .i64 n] 34), (HS.out _).2 (by go_simp)⟩⟩
  go_enter Try.func61, Try.ntmps61
  go_wp2
  go_region
  go_wp2_with (fail)
  refine wp_region_ord (S := S) [(0, true), (1, true), (2, true), (3, true), (4, true), (5, true), (7, true), (8, true), (9, true), (6, false), (10, true), (11, false)] (by kernel_rfl) (by kernel_rfl) (by kernel_rfl) ?_ ?_
  · exact (HS.out _).2 (by go_simp)
  iterate 9 (refine wpOrd_take rfl (by kernel_rfl) (fun K hK => ?_); go_simp; refine hK _ _ ?_; clear hK K)
  refine wpOrd_busy rfl (by kernel_rfl) (fun K hK => ?_); go_simp
  refine (Hh.out _).mono ?_
  rintro e w5 ⟨rfl, rfl⟩
  go_simp
  refine hK _ _ ((HS.out _).2 (by go_simp)) ?_; clear hK K
  refine wpOrd_take rfl (by kernel_rfl) (fun K hK => ?_); go_simp; refine hK _ _ ?_; clear hK K
  refine wpOrd_busy rfl (by kernel_rfl) (fun K hK => ?_); go_simp
  refine hK _ _ ((HS.out _).2 (by go_simp)) ?_; clear hK K
  refine wpOrd_done ?_
  clear k1 hne
  go_wp2
  go_end0
  exact ⟨rfl, ((((H.out.setR a.toNat Ha.out q).alloc _).drew).drew), below_drew (below_drew (below_alloc (below_put (Below.refl _ _) _ _) (by have := H.out.lt; simp; omega) _))⟩

set_option maxHeartbeats 1000000 in
theorem seq_operate_29 (a b c n : Int) (w : World) (M : Nat) (rv cv : Value) (x : Ms) (se : List Se) (h : Run w M rv cv x se) (hl : se.length ≤ 200000) (a0 : 0 ≤ a) (a1 : a < 10) (b0 : 0 ≤ b) (b1 : b < 10) (c0 : 0 ≤ c) (c1 : c < 10) :
    Calls Try.prog 61 #[.pointer (some ⟨M, 0, none⟩), .agg #[.int .i64 29, .int .i64 a, .int .i64 b, .int .i64 c, .int .i64 n]] w fun e w' =>
      e = .returned (.tuple #[]) ∧ Run w' M rv cv { x with r := setR x.r a (opI (29 - 20) (x.r b.toNat) (x.r c.toNat)) } (se ++ [⟨3, x.r b.toNat, x.r c.toNat⟩]) ∧ Below M w w' := by
  have hM := h.lt
  have hn : ¬ M = w.heap.size := by omega
  have hn' : ¬ w.heap.size = M := by omega
  have hwr := wrapEq
  have yb := (h.r b.toNat (by omega)).1
  have yc := (h.r c.toNat (by omega)).1
  obtain ⟨y, hy⟩ : ∃ y, x.r b.toNat = y := ⟨_, rfl⟩
  obtain ⟨z, hz⟩ : ∃ z, x.r c.toNat = z := ⟨_, rfl⟩
  rw [hy] at yb ⊢
  rw [hz] at yc ⊢
  have Hl : Hid (se.length ≤ 200000) := hl
  have H : Hid (Run w M rv cv x se) := h
  have Ha : Hid (a.toNat < 10) := (by omega : a.toNat < 10)
  have w9 : wrap64 9 = 9 := by unfold wrap64; omega
  have w10 : wrap64 10 = 10 := by unfold wrap64; omega
  have Hh : Hid (∀ w : World, Calls Try.prog 10 #[.int .i64 9, .int .i64 y, .int .i64 z] w fun e w' => e = .returned (.int .i64 (opI (29 - 20) y z)) ∧ w' = w) := fun w => op_calls _ _ _ w
  obtain ⟨q, hq⟩ : ∃ q, opI (29 - 20) y z = q := ⟨_, rfl⟩
  rw [hq] at Hh ⊢
  clear hq hy hz h hl
  go_enter Try.func61, Try.ntmps61
  go_wp2
  go_region
  go_wp2_with (fail)
  refine (seq_show _ M rv cv x se 3 y z Hl.out (H.out.alloc _).drew).mono ?_
  rintro e w2 ⟨rfl, r2, b2, kp⟩
  have kb := kp w.heap.size (by simp) (by omega) (fun sv hsv => H.out.notOwn w.heap.size (Nat.le_refl _) sv (by rw [← hsv]; exact (World.cell?_of_block ((World.grownBy_alloc w _ none).block M hM (by simp))).symm))
  have q1 : w2.cell? ⟨w.heap.size, 1, none⟩ = some (.int .i64 a) := by rw [World.cell?_of_block kb.1]; go_simp
  have H2 : Hid (Run w2 M rv cv x (se ++ [⟨3, y, z⟩]) ∧ Below M (w.alloc (.cells #[.int .i64 29, .int .i64 a, .int .i64 b, .int .i64 c, .int .i64 n] 34)).drew w2) := ⟨r2, b2⟩
  obtain ⟨ya, fa⟩ := r2.r a.toNat Ha.out
  clear r2 b2 kp kb
  obtain ⟨S, HS⟩ : ∃ S : World → Prop, Hid (∀ w', S w' ↔ w'.cell? ⟨w.heap.size, 1, none⟩ = some (.int .i64 a)) := ⟨_, fun _ => Iff.rfl⟩
  have k1 : ∀ i : { w' // S w' }, i.val.cell? ⟨w.heap.size, 1, none⟩ = some (.int .i64 a) := fun i => (HS.out _).1 i.property
  have hne : Nonempty { w' // S w' } := ⟨⟨w2, (HS.out _).2 q1⟩⟩
  go_wp2_with (fail)
  refine wp_region_ord (S := S) [(0, true), (1, true), (2, true), (3, true), (4, true), (5, true), (7, true), (8, true), (9, true), (6, false), (10, true), (11, false)] (by kernel_rfl) (by kernel_rfl) (by kernel_rfl) ?_ ?_
  · exact (HS.out _).2 (by go_simp)
  iterate 9 (refine wpOrd_take rfl (by kernel_rfl) (fun K hK => ?_); go_simp; refine hK _ _ ?_; clear hK K)
  refine wpOrd_busy rfl (by kernel_rfl) (fun K hK => ?_); go_simp
  refine (Hh.out _).mono ?_
  rintro e w5 ⟨rfl, rfl⟩
  go_simp
  refine hK _ _ ((HS.out _).2 (by go_simp)) ?_; clear hK K
  refine wpOrd_take rfl (by kernel_rfl) (fun K hK => ?_); go_simp; refine hK _ _ ?_; clear hK K
  refine wpOrd_busy rfl (by kernel_rfl) (fun K hK => ?_); go_simp
  refine hK _ _ ((HS.out _).2 (by go_simp)) ?_; clear hK K
  refine wpOrd_done ?_
  clear k1 hne
  go_wp2
  go_end0
  exact ⟨rfl, (H2.out.1.drew.setR a.toNat Ha.out q), below_put (below_drew (Below.trans (below_drew (below_alloc (Below.refl _ _) (Nat.le_of_lt H.out.lt) _)) H2.out.2)) _ _⟩

set_option maxHeartbeats 1000000 in
theorem seq_operate_30 (a b c n : Int) (w : World) (M : Nat) (rv cv : Value) (x : Ms) (se : List Se) (h : Run w M rv cv x se) (hl : se.length ≤ 200000) (a0 : 0 ≤ a) (a1 : a < 10) (b0 : 0 ≤ b) (b1 : b < 10) (c0 : 0 ≤ c) (c1 : c < 10) :
    Calls Try.prog 61 #[.pointer (some ⟨M, 0, none⟩), .agg #[.int .i64 30, .int .i64 a, .int .i64 b, .int .i64 c, .int .i64 n]] w fun e w' =>
      e = .returned (.tuple #[]) ∧ Run w' M rv cv { x with r := setR x.r a (opI (30 - 20) (x.r b.toNat) (x.r c.toNat)) } (se ++ [⟨3, x.r b.toNat, x.r c.toNat⟩]) ∧ Below M w w' := by
  have hM := h.lt
  have hn : ¬ M = w.heap.size := by omega
  have hn' : ¬ w.heap.size = M := by omega
  have hwr := wrapEq
  have yb := (h.r b.toNat (by omega)).1
  have yc := (h.r c.toNat (by omega)).1
  obtain ⟨y, hy⟩ : ∃ y, x.r b.toNat = y := ⟨_, rfl⟩
  obtain ⟨z, hz⟩ : ∃ z, x.r c.toNat = z := ⟨_, rfl⟩
  rw [hy] at yb ⊢
  rw [hz] at yc ⊢
  have Hl : Hid (se.length ≤ 200000) := hl
  have H : Hid (Run w M rv cv x se) := h
  have Ha : Hid (a.toNat < 10) := (by omega : a.toNat < 10)
  have w9 : wrap64 9 = 9 := by unfold wrap64; omega
  have w10 : wrap64 10 = 10 := by unfold wrap64; omega
  have Hh : Hid (∀ w : World, Calls Try.prog 10 #[.int .i64 10, .int .i64 y, .int .i64 z] w fun e w' => e = .returned (.int .i64 (opI (30 - 20) y z)) ∧ w' = w) := fun w => op_calls _ _ _ w
  obtain ⟨q, hq⟩ : ∃ q, opI (30 - 20) y z = q := ⟨_, rfl⟩
  rw [hq] at Hh ⊢
  clear hq hy hz h hl
  go_enter Try.func61, Try.ntmps61
  go_wp2
  go_region
  go_wp2_with (fail)
  refine (seq_show _ M rv cv x se 3 y z Hl.out (H.out.alloc _).drew).mono ?_
  rintro e w2 ⟨rfl, r2, b2, kp⟩
  have kb := kp w.heap.size (by simp) (by omega) (fun sv hsv => H.out.notOwn w.heap.size (Nat.le_refl _) sv (by rw [← hsv]; exact (World.cell?_of_block ((World.grownBy_alloc w _ none).block M hM (by simp))).symm))
  have q1 : w2.cell? ⟨w.heap.size, 1, none⟩ = some (.int .i64 a) := by rw [World.cell?_of_block kb.1]; go_simp
  have H2 : Hid (Run w2 M rv cv x (se ++ [⟨3, y, z⟩]) ∧ Below M (w.alloc (.cells #[.int .i64 30, .int .i64 a, .int .i64 b, .int .i64 c, .int .i64 n] 34)).drew w2) := ⟨r2, b2⟩
  obtain ⟨ya, fa⟩ := r2.r a.toNat Ha.out
  clear r2 b2 kp kb
  obtain ⟨S, HS⟩ : ∃ S : World → Prop, Hid (∀ w', S w' ↔ w'.cell? ⟨w.heap.size, 1, none⟩ = some (.int .i64 a)) := ⟨_, fun _ => Iff.rfl⟩
  have k1 : ∀ i : { w' // S w' }, i.val.cell? ⟨w.heap.size, 1, none⟩ = some (.int .i64 a) := fun i => (HS.out _).1 i.property
  have hne : Nonempty { w' // S w' } := ⟨⟨w2, (HS.out _).2 q1⟩⟩
  go_wp2_with (fail)
  refine wp_region_ord (S := S) [(0, true), (1, true), (2, true), (3, true), (4, true), (5, true), (7, true), (8, true), (9, true), (6, false), (10, true), (11, false)] (by kernel_rfl) (by kernel_rfl) (by kernel_rfl) ?_ ?_
  · exact (HS.out _).2 (by go_simp)
  iterate 9 (refine wpOrd_take rfl (by kernel_rfl) (fun K hK => ?_); go_simp; refine hK _ _ ?_; clear hK K)
  refine wpOrd_busy rfl (by kernel_rfl) (fun K hK => ?_); go_simp
  refine (Hh.out _).mono ?_
  rintro e w5 ⟨rfl, rfl⟩
  go_simp
  refine hK _ _ ((HS.out _).2 (by go_simp)) ?_; clear hK K
  refine wpOrd_take rfl (by kernel_rfl) (fun K hK => ?_); go_simp; refine hK _ _ ?_; clear hK K
  refine wpOrd_busy rfl (by kernel_rfl) (fun K hK => ?_); go_simp
  refine hK _ _ ((HS.out _).2 (by go_simp)) ?_; clear hK K
  refine wpOrd_done ?_
  clear k1 hne
  go_wp2
  go_end0
  exact ⟨rfl, (H2.out.1.drew.setR a.toNat Ha.out q), below_put (below_drew (Below.trans (below_drew (below_alloc (Below.refl _ _) (Nat.le_of_lt H.out.lt) _)) H2.out.2)) _ _⟩

end Go.Proofs.Ytdlhlhbbhjbkpaa
