/-
  The texts RefStep, RefMore, Copy, Own, Inv, PAt, PlayAux, StepEq, Way, Play, PlayNeg, CkSafe, CvTold, CkCopy, KnRef, KnRefA, KnRefB, KnRefC, KnRefOp, CkLess, CkJoin, CkLead, one behind the other, with what is used of them.
-/
import Derived.Test.YtmpafeoileonjaaRows
import Derived.WalkKit
import Derived.Deep.LoopGhost
import Derived.Test.YtmpafeoileonjaaJoined0
import Derived.Test.YtmpafeoileonjaaJoined3
import Derived.Test.YtmpafeoileonjaaJoined4
import Derived.Deep.AppendLies
import Derived.OwnWalk
import Derived.Laws.OwnMore
import Derived.Deep.OwnRows
import Derived.Laws.AppendOwnNone
import Derived.Test.YtmpafeoileonjaaProg
namespace Go.Proofs.Ytmpafeoileonjaa
section
open Go.RowKit
theorem J3x (op a b c n : Int) (w : World) :
  Calls Try.prog 31 #[.agg #[.int .i64 op, .int .i64 a, .int .i64 b, .int .i64 c, .int .i64 n]] w fun e w' => e = .returned (.int .i64 (putI ⟨op, a, b, c, n⟩)) ∧ More w w' := by
 by_cases h3 : op = 3
 ·subst h3
  go_enter Try.func31, Try.ntmps31
  go_wp2
  go_ret
  exact ⟨by simp [putI], (More.refl _).alloc _ _⟩
 by_cases h5 : op = 5
 ·subst h5
  go_enter Try.func31, Try.ntmps31
  go_wp2
  go_ret
  exact ⟨by simp [putI], (More.refl _).alloc _ _⟩
 by_cases h4 : op = 4
 ·subst h4
  go_enter Try.func31, Try.ntmps31
  go_wp2
  go_ret
  exact ⟨by simp [putI], (More.refl _).alloc _ _⟩
 by_cases h6 : op = 6
 ·subst h6
  go_enter Try.func31, Try.ntmps31
  go_wp2
  go_ret
  exact ⟨by simp [putI], (More.refl _).alloc _ _⟩
 obtain ⟨P, hP⟩ : ∃ P, putI ⟨op, a, b, c, n⟩ = P := ⟨_, rfl⟩
 have HP : Hid (P = -1) := (show P = -1 by rw [← hP]; unfold putI; dsimp only; rw [if_neg (by omega), if_neg (by omega)])
 rw [hP, HP.out]
 clear hP HP
 go_enter Try.func31, Try.ntmps31
 go_wp2
 go_ret
 exact ⟨rfl, (More.refl _).alloc _ _⟩

theorem Jab (op a b c n : Int) (sv : Value) (h : op = 5 ∨ op = 6) (w : World) :
  Calls Try.prog 33 #[sv, .agg #[.int .i64 op, .int .i64 a, .int .i64 b, .int .i64 c, .int .i64 n]] w fun e w' => e = .returned (.int .i64 n) ∧ More w w' := by
 rcases h with rfl | rfl
 all_goals
  go_enter Try.func33, Try.ntmps33
  go_wp2
  go_ret
  exact ⟨rfl, (More.refl _).alloc _ _⟩

set_option maxHeartbeats 400000 in
theorem Jac (op a b c n : Int) (g : Nat) {gc : Nat} (x : Int) (h5 : ¬ op = 5) (h6 : ¬ op = 6) (hb : 0 ≤ b) (hb' : b < 10) (w : World) (hx : w.cell? ⟨g, b.toNat, none⟩ = some (.int .i64 x)) :
  Calls Try.prog 33 #[.slice (some ⟨g, 0, none⟩) 10 gc, .agg #[.int .i64 op, .int .i64 a, .int .i64 b, .int .i64 c, .int .i64 n]] w fun e w' => e = .returned (.int .i64 (wrap64 (x + n))) ∧ More w w' := by
 obtain ⟨W, HW⟩ : ∃ W : World, Hid (W = w.alloc (.cells #[.int .i64 op, .int .i64 a, .int .i64 b, .int .i64 c, .int .i64 n] 59)) := ⟨_, rfl⟩
 have Hw : Hid (More w W) := HW.out ▸ (More.refl _).alloc _ _
 obtain ⟨S, HS⟩ : ∃ S : World → Prop, Hid (∀ w', S w' ↔ More W w') := ⟨fun w' => More W w', fun _ => Iff.rfl⟩
 have k0 : ∀ i : { w' // S w' }, i.val.cell? ⟨g, b.toNat, none⟩ = some (.int .i64 x) := fun i => ((HS.out _).1 i.property).cell (Hw.out.cell hx)
 have k2 : ∀ i : { w' // S w' }, i.val.cell? ⟨w.heap.size, 2, none⟩ = some (.int .i64 b) := fun i => ((HS.out _).1 i.property).cell (by rw [HW.out]; go_simp)
 have k4 : ∀ i : { w' // S w' }, i.val.cell? ⟨w.heap.size, 4, none⟩ = some (.int .i64 n) := fun i => ((HS.out _).1 i.property).cell (by rw [HW.out]; go_simp)
 have hne : Nonempty { w' // S w' } := ⟨⟨W, (HS.out _).2 (More.refl _)⟩⟩
 have hwr := J27
 have t5 : (op == 5) = false := by simp [h5]
 have t6 : (op == 6) = false := by simp [h6]
 clear hx h5 h6
 go_enter Try.func33, Try.ntmps33
 go_wp2_with (fail)
 refine J01 (S := S) [(0, true), (1, true), (2, true), (3, true), (4, true), (5, true), (6, true), (7, true), (8, true)] (by kernel_rfl) (by kernel_rfl) (by kernel_rfl) ((HS.out _).2 (by rw [HW.out]; exact (More.refl _).drew)) ?_
 iterate 9 (refine J00 rfl (by kernel_rfl) (fun K hK => ?_); go_simp; refine hK _ _ ?_; clear hK K)
 refine J04 ?_
 clear k0 k2 k4 hne
 go_wp2
 go_ret
 exact ⟨rfl, ((More.refl _).alloc _ _).drew⟩

set_option maxHeartbeats 400000 in
theorem Jbb (ra : Option Addr) (rl rc : Nat) (ca : Option Addr) (cl cc : Nat) (c : Int) (rb ro : Nat) (log : Nat → Int) (sec : Nat → Bool) (w : World) (h0 : 0 ≤ c) (h1 : c < (rl : Int))
  (hra : 0 < rl → ra = some ⟨rb, ro, none⟩) (hr : RegsAt w rb ro rl log sec) (hok : J0g rl log) :
  Calls Try.prog 34 #[.agg #[.slice ra rl rc, .slice ca cl cc], .int .i64 c] w fun e w' => e = .returned (.int .i64 (baseI log c.toNat)) ∧ More w w' := by
 obtain ⟨k0, rfl⟩ : ∃ k : Nat, c = k := ⟨c.toNat, by omega⟩
 have Hr : Hid (RegsAt w rb ro rl log sec ∧ J0g rl log) := ⟨hr, hok⟩
 obtain rfl := hra (by omega)
 have hk0 : k0 < rl := by omega
 have h6 : rl ≤ 6 := hok.1
 obtain ⟨R, HR⟩ : ∃ R, Hid (baseI log k0 = R) := ⟨_, rfl⟩
 rw [show ((k0 : Int)).toNat = k0 by omega, HR.out]
 clear hra hr hok h0 h1
 go_enter Try.func34, Try.ntmps34
 go_wp2
 go_loopg [5, 6] k0 (fun g nv i wr => ∃ (k : Nat) (m : Int), k + g = k0 ∧ m = baseI log k ∧ (0 ≤ m ∧ m ≤ 64 * k) ∧ nv = .int .i64 m ∧ i = .int .i64 k ∧ More (w.alloc (.cells #[.slice (some ⟨rb, ro, none⟩) rl rc, .slice ca cl cc] 25)) wr)
 case atStart => exact ⟨0, 0, by omega, rfl, by omega, rfl, rfl, More.refl _⟩
 case round =>
  obtain ⟨k, m, hkg, hm, ⟨b0, b1⟩, rfl, rfl, mm⟩ := hrel
  have e0 : wr.cell? ⟨w.heap.size, 0, none⟩ = some (.slice (some ⟨rb, ro, none⟩) rl rc) := mm.cell (by go_simp)
  have e1 : wr.cell? ⟨w.heap.size, 1, none⟩ = some (.slice ca cl cc) := mm.cell (by go_simp)
  have Hm : Hid (m = baseI log k ∧ More (w.alloc (.cells #[.slice (some ⟨rb, ro, none⟩) rl rc, .slice ca cl cc] 25)) wr) := ⟨hm, mm⟩
  clear hm mm
  cases gk with
  | zero =>
   obtain rfl : k = k0 := by omega
   go_wp2
   go_ret
   exact ⟨congrArg (fun n => Ending.returned (.int .i64 n)) (Hm.out.1.trans HR.out), ((More.refl _).alloc _ _).trans Hm.out.2⟩
  | succ g =>
   have hk : k < rl := by omega
   have hk' : (k : Int) < (k0 : Int) := by omega
   have hkr : (k : Int) < (rl : Int) := by omega
   have hk1 : (0 : Int) ≤ (k : Int) := by omega
   have mw : More w wr := ((More.refl _).alloc _ _).trans Hm.out.2
   have q0 := ((Hr.out.1.more mw) k hk).1
   have q1 := ((Hr.out.1.more mw) k hk).2
   clear mw
   have Hlog : Hid (0 ≤ log k ∧ log k ≤ 6) := Hr.out.2.2 k hk
   obtain ⟨lk, hlk⟩ : ∃ x, log k = x := ⟨_, rfl⟩
   rw [hlk] at q0 Hlog
   have Hlk : Hid (log k = lk) := hlk
   clear hlk
   go_wp2_with (fail)
   obtain ⟨nw, hnw⟩ : ∃ x, J0h lk = x := ⟨_, rfl⟩
   refine (J32 lk Hlog.out.1 Hlog.out.2 (sec k) _).mono ?_
   rw [hnw]
   have hnb : 1 ≤ nw ∧ nw ≤ 64 := by
    rw [← hnw]
    exact J2j (k := lk.toNat) (by have := Hlog.out; omega)
   have Hnw : Hid (J0h (log k) = nw) := by rw [Hlk.out]; exact hnw
   clear hnw q0 q1
   rintro e w2 ⟨rfl, m2⟩
   have Hm2 : Hid (More (w.alloc (.cells #[.slice (some ⟨rb, ro, none⟩) rl rc, .slice ca cl cc] 25)) w2) := Hm.out.2.trans m2
   clear m2 e0 e1
   go_wp2
   go_roundg g
   case measure => omega
   case rel =>
    refine ⟨k + 1, m + nw, by omega, by rw [baseI, ← Hm.out.1, Hnw.out], by push_cast; omega, ?_, by first | rfl | simp, Hm2.out⟩
    first | rfl | (simp; unfold wrap64; omega)

set_option maxHeartbeats 400000 in
theorem reg_1 (a b c n : Int) (g : Nat) {gc : Nat} (r : Nat → Int) (w : World) (hr : RegsR w g r) (a0 : 0 ≤ a) (a1 : a < 10) :
  Calls Try.prog 35 #[.slice (some ⟨g, 0, none⟩) 10 gc, .agg #[.int .i64 1, .int .i64 a, .int .i64 b, .int .i64 c, .int .i64 n]] w fun e w' => e = .returned (.slice none 0 0) ∧ RegsR w' g (setR r a n) ∧ w.grownBy w' (some g) := by
 have Hr : Hid (RegsR w g r) := hr
 have hrW : RegsR (w.alloc (.cells #[.int .i64 1, .int .i64 a, .int .i64 b, .int .i64 c, .int .i64 n] 59)) g r := hr.alloc _ _
 have hg : g < w.heap.size := J05 (hr 0 (by omega)).1
 have ca := (hr a.toNat (by omega)).1
 have fa := (hr a.toNat (by omega)).2
 clear hr hrW
 go_enter Try.func35, Try.ntmps35
 go_wp2
 go_ret
 exact ⟨rfl, (by repeat (first | exact Hr.out | apply RegsR.drew | apply RegsR.alloc | apply RegsR.set)), (by repeat (first | exact J0n _ _ | apply J2e | apply J1u | apply J10))⟩

set_option maxHeartbeats 400000 in
theorem Jkf (a b c n : Int) (g : Nat) {gc : Nat} (r : Nat → Int) (w : World) (hr : RegsR w g r) :
  Calls Try.prog 35 #[.slice (some ⟨g, 0, none⟩) 10 gc, .agg #[.int .i64 12, .int .i64 a, .int .i64 b, .int .i64 c, .int .i64 n]] w fun e w' => e = .returned (.slice none 0 0) ∧ RegsR w' g (r) ∧ w.grownBy w' (some g) := by
 have Hr : Hid (RegsR w g r) := hr
 have hrW : RegsR (w.alloc (.cells #[.int .i64 12, .int .i64 a, .int .i64 b, .int .i64 c, .int .i64 n] 59)) g r := hr.alloc _ _
 have hg : g < w.heap.size := J05 (hr 0 (by omega)).1
 clear hr hrW
 go_enter Try.func35, Try.ntmps35
 go_wp2
 go_ret
 exact ⟨rfl, (by repeat (first | exact Hr.out | apply RegsR.drew | apply RegsR.alloc | apply RegsR.set)), (by repeat (first | exact J0n _ _ | apply J2e | apply J1u | apply J10))⟩

set_option maxHeartbeats 400000 in
theorem reg_2 (a b c n : Int) (g : Nat) {gc : Nat} (r : Nat → Int) (w : World) (hr : RegsR w g r) (a0 : 0 ≤ a) (a1 : a < 10) (b0 : 0 ≤ b) (b1 : b < 10) :
  Calls Try.prog 35 #[.slice (some ⟨g, 0, none⟩) 10 gc, .agg #[.int .i64 2, .int .i64 a, .int .i64 b, .int .i64 c, .int .i64 n]] w fun e w' => e = .returned (.slice none 0 0) ∧ RegsR w' g (setR r a (r b.toNat)) ∧ w.grownBy w' (some g) := by
 have Hr : Hid (RegsR w g r) := hr
 have hrW : RegsR (w.alloc (.cells #[.int .i64 2, .int .i64 a, .int .i64 b, .int .i64 c, .int .i64 n] 59)) g r := hr.alloc _ _
 have hg : g < w.heap.size := J05 (hr 0 (by omega)).1
 have ca := (hr a.toNat (by omega)).1
 have fa := (hr a.toNat (by omega)).2
 have cb := (hr b.toNat (by omega)).1
 have fb := (hr b.toNat (by omega)).2
 obtain ⟨S, HS⟩ : ∃ S : World → Prop, Hid (∀ w', S w' ↔ w'.cell? ⟨w.heap.size, 1, none⟩ = some (.int .i64 a) ∧ w'.cell? ⟨w.heap.size, 2, none⟩ = some (.int .i64 b)) := ⟨_, fun _ => Iff.rfl⟩
 have k1 : ∀ i : { w' // S w' }, i.val.cell? ⟨w.heap.size, 1, none⟩ = some (.int .i64 a) := fun i => ((HS.out _).1 i.property).1
 have k2 : ∀ i : { w' // S w' }, i.val.cell? ⟨w.heap.size, 2, none⟩ = some (.int .i64 b) := fun i => ((HS.out _).1 i.property).2
 have hne : Nonempty { w' // S w' } := ⟨⟨w.alloc (.cells #[.int .i64 2, .int .i64 a, .int .i64 b, .int .i64 c, .int .i64 n] 59), (HS.out _).2 (by go_simp)⟩⟩
 clear hr hrW
 go_enter Try.func35, Try.ntmps35
 go_wp2_with (fail)
 refine J01 (S := S) [(0, true), (1, true), (2, true), (3, true), (4, true), (5, true), (6, true), (7, false), (8, true), (9, false)] (by kernel_rfl) (by kernel_rfl) (by kernel_rfl) ((HS.out _).2 (by go_simp)) ?_
 iterate 7 (refine J00 rfl (by kernel_rfl) (fun K hK => ?_); go_simp; refine hK _ _ ?_; clear hK K)
 refine J02 rfl (by kernel_rfl) (fun K hK => ?_); go_simp
 refine hK _ _ ((HS.out _).2 (by go_simp)) ?_; clear hK K
 refine J00 rfl (by kernel_rfl) (fun K hK => ?_); go_simp; refine hK _ _ ?_; clear hK K
 refine J02 rfl (by kernel_rfl) (fun K hK => ?_); go_simp
 refine hK _ _ ((HS.out _).2 (by go_simp)) ?_; clear hK K
 refine J04 ?_
 clear k1 k2 hne
 go_wp2
 go_ret
 exact ⟨rfl, (by repeat (first | exact Hr.out | apply RegsR.drew | apply RegsR.alloc | apply RegsR.set)), (by repeat (first | exact J0n _ _ | apply J2e | apply J1u | apply J10))⟩

set_option maxHeartbeats 400000 in
theorem Jke (a b c n : Int) (g : Nat) {gc : Nat} (r : Nat → Int) (w : World) (hr : RegsR w g r) (a0 : 0 ≤ a) (a1 : a < 10) (b0 : 0 ≤ b) (b1 : b < 10) :
  Calls Try.prog 35 #[.slice (some ⟨g, 0, none⟩) 10 gc, .agg #[.int .i64 10, .int .i64 a, .int .i64 b, .int .i64 c, .int .i64 n]] w fun e w' => e = .returned (.slice none 0 0) ∧ RegsR w' g (setR r a (wrap64 (r b.toNat + n))) ∧ w.grownBy w' (some g) := by
 have Hr : Hid (RegsR w g r) := hr
 have hrW : RegsR (w.alloc (.cells #[.int .i64 10, .int .i64 a, .int .i64 b, .int .i64 c, .int .i64 n] 59)) g r := hr.alloc _ _
 have hg : g < w.heap.size := J05 (hr 0 (by omega)).1
 have ca := (hr a.toNat (by omega)).1
 have fa := (hr a.toNat (by omega)).2
 have cb := (hr b.toNat (by omega)).1
 have fb := (hr b.toNat (by omega)).2
 obtain ⟨S, HS⟩ : ∃ S : World → Prop, Hid (∀ w', S w' ↔ w'.cell? ⟨w.heap.size, 1, none⟩ = some (.int .i64 a) ∧ w'.cell? ⟨w.heap.size, 2, none⟩ = some (.int .i64 b) ∧ w'.cell? ⟨w.heap.size, 4, none⟩ = some (.int .i64 n)) := ⟨_, fun _ => Iff.rfl⟩
 have k1 : ∀ i : { w' // S w' }, i.val.cell? ⟨w.heap.size, 1, none⟩ = some (.int .i64 a) := fun i => ((HS.out _).1 i.property).1
 have k2 : ∀ i : { w' // S w' }, i.val.cell? ⟨w.heap.size, 2, none⟩ = some (.int .i64 b) := fun i => ((HS.out _).1 i.property).2.1
 have k4 : ∀ i : { w' // S w' }, i.val.cell? ⟨w.heap.size, 4, none⟩ = some (.int .i64 n) := fun i => ((HS.out _).1 i.property).2.2
 have hne : Nonempty { w' // S w' } := ⟨⟨w.alloc (.cells #[.int .i64 10, .int .i64 a, .int .i64 b, .int .i64 c, .int .i64 n] 59), (HS.out _).2 (by go_simp)⟩⟩
 have hwr := J27
 clear hr hrW
 go_enter Try.func35, Try.ntmps35
 go_wp2_with (fail)
 refine J01 (S := S) [(0, true), (1, true), (2, true), (3, true), (4, true), (5, true), (6, true), (8, true), (9, true), (7, false), (10, true), (11, true), (12, false)] (by kernel_rfl) (by kernel_rfl) (by kernel_rfl) ((HS.out _).2 (by go_simp)) ?_
 iterate 9 (refine J00 rfl (by kernel_rfl) (fun K hK => ?_); go_simp; refine hK _ _ ?_; clear hK K)
 refine J02 rfl (by kernel_rfl) (fun K hK => ?_); go_simp
 refine hK _ _ ((HS.out _).2 (by go_simp)) ?_; clear hK K
 iterate 2 (refine J00 rfl (by kernel_rfl) (fun K hK => ?_); go_simp; refine hK _ _ ?_; clear hK K)
 refine J02 rfl (by kernel_rfl) (fun K hK => ?_); go_simp
 refine hK _ _ ((HS.out _).2 (by go_simp)) ?_; clear hK K
 refine J04 ?_
 clear k1 k2 k4 hne
 go_wp2
 go_ret
 exact ⟨rfl, (by repeat (first | exact Hr.out | apply RegsR.drew | apply RegsR.alloc | apply RegsR.set)), (by repeat (first | exact J0n _ _ | apply J2e | apply J1u | apply J10))⟩

set_option maxHeartbeats 1000000 in
theorem Je5 (a b c n : Int) (g : Nat) {gc : Nat} (r : Nat → Int) (x : Int) (w : World) (hr : RegsR w g r) (hx : r a.toNat = x) (a0 : 0 ≤ a) (a1 : a < 10) (hlo : x < 0) :
  Calls Try.prog 35 #[.slice (some ⟨g, 0, none⟩) 10 gc, .agg #[.int .i64 11, .int .i64 a, .int .i64 b, .int .i64 c, .int .i64 n]] w fun e w' => e = .returned (.slice none 0 0) ∧ RegsR w' g (setR r a 0) ∧ w.grownBy w' (some g) := by
 have Hr : Hid (RegsR w g r) := hr
 have hrW : RegsR (w.alloc (.cells #[.int .i64 11, .int .i64 a, .int .i64 b, .int .i64 c, .int .i64 n] 59)) g r := hr.alloc _ _
 have hg : g < w.heap.size := J05 (hr 0 (by omega)).1
 have ca := (hr a.toNat (by omega)).1
 have fa := (hr a.toNat (by omega)).2
 rw [hx] at ca
 obtain ⟨S, HS⟩ : ∃ S : World → Prop, Hid (∀ w', S w' ↔ w'.cell? ⟨w.heap.size, 1, none⟩ = some (.int .i64 a) ∧ w'.cell? ⟨w.heap.size, 4, none⟩ = some (.int .i64 n) ∧ w'.cell? ⟨g, a.toNat, none⟩ = some (.int .i64 x)) := ⟨_, fun _ => Iff.rfl⟩
 have k1 : ∀ i : { w' // S w' }, i.val.cell? ⟨w.heap.size, 1, none⟩ = some (.int .i64 a) := fun i => ((HS.out _).1 i.property).1
 have k4 : ∀ i : { w' // S w' }, i.val.cell? ⟨w.heap.size, 4, none⟩ = some (.int .i64 n) := fun i => ((HS.out _).1 i.property).2.1
 have kx : ∀ i : { w' // S w' }, i.val.cell? ⟨g, a.toNat, none⟩ = some (.int .i64 x) := fun i => ((HS.out _).1 i.property).2.2
 have hne : Nonempty { w' // S w' } := ⟨⟨w.alloc (.cells #[.int .i64 11, .int .i64 a, .int .i64 b, .int .i64 c, .int .i64 n] 59), (HS.out _).2 (by go_simp)⟩⟩
 clear hr hrW hx
 go_enter Try.func35, Try.ntmps35
 go_wp2_with (fail)
 refine J01 (S := S) [(0, true), (1, true), (2, true), (3, true), (4, true), (5, true), (6, true), (7, true), (8, true), (9, true), (10, true), (11, true), (12, true), (13, true), (14, true), (15, true)] (by kernel_rfl) (by kernel_rfl) (by kernel_rfl) ((HS.out _).2 (by go_simp)) ?_
 iterate 6 (refine J00 rfl (by kernel_rfl) (fun K hK => ?_); go_simp; refine hK _ _ ?_; clear hK K)
 refine J1b rfl rfl (by kernel_rfl) (fun K hK => ?_); go_simp; refine hK _ _ ?_; clear hK K
 iterate 8 (refine J1r rfl ((HS.out _).2 (by go_simp)) (by kernel_rfl) (by kernel_rfl) ?_)
 refine J0s rfl rfl (by kernel_rfl) rfl (fun K hK => ?_); go_simp; refine hK _ _ ?_; clear hK K
 refine J04 ?_
 clear k1 k4 kx hne
 go_wp2
 go_ret
 exact ⟨rfl, (by repeat (first | exact Hr.out | apply RegsR.drew | apply RegsR.alloc | apply RegsR.set)), (by repeat (first | exact J0n _ _ | apply J2e | apply J1u | apply J10))⟩

set_option maxHeartbeats 1000000 in
theorem Je3 (a b c n : Int) (g : Nat) {gc : Nat} (r : Nat → Int) (x : Int) (w : World) (hr : RegsR w g r) (hx : r a.toNat = x) (a0 : 0 ≤ a) (a1 : a < 10) (hlo : ¬ x < 0) (hhi : n ≤ x) :
  Calls Try.prog 35 #[.slice (some ⟨g, 0, none⟩) 10 gc, .agg #[.int .i64 11, .int .i64 a, .int .i64 b, .int .i64 c, .int .i64 n]] w fun e w' => e = .returned (.slice none 0 0) ∧ RegsR w' g (setR r a 0) ∧ w.grownBy w' (some g) := by
 have Hr : Hid (RegsR w g r) := hr
 have hrW : RegsR (w.alloc (.cells #[.int .i64 11, .int .i64 a, .int .i64 b, .int .i64 c, .int .i64 n] 59)) g r := hr.alloc _ _
 have hg : g < w.heap.size := J05 (hr 0 (by omega)).1
 have ca := (hr a.toNat (by omega)).1
 have fa := (hr a.toNat (by omega)).2
 rw [hx] at ca
 obtain ⟨S, HS⟩ : ∃ S : World → Prop, Hid (∀ w', S w' ↔ w'.cell? ⟨w.heap.size, 1, none⟩ = some (.int .i64 a) ∧ w'.cell? ⟨w.heap.size, 4, none⟩ = some (.int .i64 n) ∧ w'.cell? ⟨g, a.toNat, none⟩ = some (.int .i64 x)) := ⟨_, fun _ => Iff.rfl⟩
 have k1 : ∀ i : { w' // S w' }, i.val.cell? ⟨w.heap.size, 1, none⟩ = some (.int .i64 a) := fun i => ((HS.out _).1 i.property).1
 have k4 : ∀ i : { w' // S w' }, i.val.cell? ⟨w.heap.size, 4, none⟩ = some (.int .i64 n) := fun i => ((HS.out _).1 i.property).2.1
 have kx : ∀ i : { w' // S w' }, i.val.cell? ⟨g, a.toNat, none⟩ = some (.int .i64 x) := fun i => ((HS.out _).1 i.property).2.2
 have hne : Nonempty { w' // S w' } := ⟨⟨w.alloc (.cells #[.int .i64 11, .int .i64 a, .int .i64 b, .int .i64 c, .int .i64 n] 59), (HS.out _).2 (by go_simp)⟩⟩
 clear hr hrW hx
 go_enter Try.func35, Try.ntmps35
 go_wp2_with (fail)
 refine J01 (S := S) [(0, true), (1, true), (2, true), (3, true), (4, true), (5, true), (6, true), (7, true), (8, true), (9, true), (10, true), (11, true), (12, true), (13, true), (14, true), (15, true)] (by kernel_rfl) (by kernel_rfl) (by kernel_rfl) ((HS.out _).2 (by go_simp)) ?_
 have hd0 : decide (x < 0) = false := by simp; omega
 iterate 6 (refine J00 rfl (by kernel_rfl) (fun K hK => ?_); go_simp; refine hK _ _ ?_; clear hK K)
 refine J1b rfl rfl (by kernel_rfl) (fun K hK => ?_); go_simp; refine hK _ _ ?_; clear hK K
 iterate 8 (refine J00 rfl (by kernel_rfl) (fun K hK => ?_); go_simp; refine hK _ _ ?_; clear hK K)
 refine J0m rfl rfl (by kernel_rfl) rfl (fun K hK => ?_); go_simp; refine hK _ _ ?_; clear hK K
 refine J04 ?_
 clear k1 k4 kx hne
 go_wp2
 go_ret
 exact ⟨rfl, (by repeat (first | exact Hr.out | apply RegsR.drew | apply RegsR.alloc | apply RegsR.set)), (by repeat (first | exact J0n _ _ | apply J2e | apply J1u | apply J10))⟩

set_option maxHeartbeats 1000000 in
theorem Je4 (a b c n : Int) (g : Nat) {gc : Nat} (r : Nat → Int) (x : Int) (w : World) (hr : RegsR w g r) (hx : r a.toNat = x) (a0 : 0 ≤ a) (a1 : a < 10) (hlo : ¬ x < 0) (hhi : x < n) :
  Calls Try.prog 35 #[.slice (some ⟨g, 0, none⟩) 10 gc, .agg #[.int .i64 11, .int .i64 a, .int .i64 b, .int .i64 c, .int .i64 n]] w fun e w' => e = .returned (.slice none 0 0) ∧ RegsR w' g (r) ∧ w.grownBy w' (some g) := by
 have Hr : Hid (RegsR w g r) := hr
 have hrW : RegsR (w.alloc (.cells #[.int .i64 11, .int .i64 a, .int .i64 b, .int .i64 c, .int .i64 n] 59)) g r := hr.alloc _ _
 have hg : g < w.heap.size := J05 (hr 0 (by omega)).1
 have ca := (hr a.toNat (by omega)).1
 have fa := (hr a.toNat (by omega)).2
 rw [hx] at ca
 obtain ⟨S, HS⟩ : ∃ S : World → Prop, Hid (∀ w', S w' ↔ w'.cell? ⟨w.heap.size, 1, none⟩ = some (.int .i64 a) ∧ w'.cell? ⟨w.heap.size, 4, none⟩ = some (.int .i64 n) ∧ w'.cell? ⟨g, a.toNat, none⟩ = some (.int .i64 x)) := ⟨_, fun _ => Iff.rfl⟩
 have k1 : ∀ i : { w' // S w' }, i.val.cell? ⟨w.heap.size, 1, none⟩ = some (.int .i64 a) := fun i => ((HS.out _).1 i.property).1
 have k4 : ∀ i : { w' // S w' }, i.val.cell? ⟨w.heap.size, 4, none⟩ = some (.int .i64 n) := fun i => ((HS.out _).1 i.property).2.1
 have kx : ∀ i : { w' // S w' }, i.val.cell? ⟨g, a.toNat, none⟩ = some (.int .i64 x) := fun i => ((HS.out _).1 i.property).2.2
 have hne : Nonempty { w' // S w' } := ⟨⟨w.alloc (.cells #[.int .i64 11, .int .i64 a, .int .i64 b, .int .i64 c, .int .i64 n] 59), (HS.out _).2 (by go_simp)⟩⟩
 clear hr hrW hx
 go_enter Try.func35, Try.ntmps35
 go_wp2_with (fail)
 refine J01 (S := S) [(0, true), (1, true), (2, true), (3, true), (4, true), (5, true), (6, true), (7, true), (8, true), (9, true), (10, true), (11, true), (12, true), (13, true), (14, true), (15, true)] (by kernel_rfl) (by kernel_rfl) (by kernel_rfl) ((HS.out _).2 (by go_simp)) ?_
 have hd0 : decide (x < 0) = false := by simp; omega
 iterate 6 (refine J00 rfl (by kernel_rfl) (fun K hK => ?_); go_simp; refine hK _ _ ?_; clear hK K)
 refine J1b rfl rfl (by kernel_rfl) (fun K hK => ?_); go_simp; refine hK _ _ ?_; clear hK K
 iterate 7 (refine J00 rfl (by kernel_rfl) (fun K hK => ?_); go_simp; refine hK _ _ ?_; clear hK K)
 have hd : decide (n ≤ x) = false := by simp; omega
 iterate 1 (refine J00 rfl (by kernel_rfl) (fun K hK => ?_); go_simp; refine hK _ _ ?_; clear hK K)
 refine J0m rfl rfl (by kernel_rfl) rfl (fun K hK => ?_); go_simp; refine hK _ _ ?_; clear hK K
 refine J04 ?_
 clear k1 k4 kx hne
 go_wp2
 go_ret
 exact ⟨rfl, (by repeat (first | exact Hr.out | apply RegsR.drew | apply RegsR.alloc | apply RegsR.set)), (by repeat (first | exact J0n _ _ | apply J2e | apply J1u | apply J10))⟩

set_option maxHeartbeats 1000000 in
theorem Je6 (op a b c n : Int) (g : Nat) {gc : Nat} (r : Nat → Int) (w : World) (hr : RegsR w g r) (o0 : 21 ≤ op) (o1 : op ≤ 30) (a0 : 0 ≤ a) (a1 : a < 10) (b0 : 0 ≤ b) (b1 : b < 10) (c0 : 0 ≤ c) (c1 : c < 10) (h29 : ¬ op = 29) (h30 : ¬ op = 30) (hb : B64 (r b.toNat)) (hc : B64 (r c.toNat)) :
  Calls Try.prog 35 #[.slice (some ⟨g, 0, none⟩) 10 gc, .agg #[.int .i64 op, .int .i64 a, .int .i64 b, .int .i64 c, .int .i64 n]] w fun e w' => e = .returned (.slice none 0 0) ∧ RegsR w' g (setR r a (opI (op - 20) (r b.toNat) (r c.toNat))) ∧ w.grownBy w' (some g) := by
 have Hr : Hid (RegsR w g r) := hr
 have hrW : RegsR (w.alloc (.cells #[.int .i64 op, .int .i64 a, .int .i64 b, .int .i64 c, .int .i64 n] 59)) g r := hr.alloc _ _
 have hg : g < w.heap.size := J05 (hr 0 (by omega)).1
 have ca := (hr a.toNat (by omega)).1
 have fa := (hr a.toNat (by omega)).2
 have cb := (hr b.toNat (by omega)).1
 have fb := (hr b.toNat (by omega)).2
 have cx := (hr c.toNat (by omega)).1
 have fx := (hr c.toNat (by omega)).2
 obtain ⟨S, HS⟩ : ∃ S : World → Prop, Hid (∀ w', S w' ↔ w'.cell? ⟨w.heap.size, 0, none⟩ = some (.int .i64 op) ∧ w'.cell? ⟨w.heap.size, 1, none⟩ = some (.int .i64 a)) := ⟨_, fun _ => Iff.rfl⟩
 have k0 : ∀ i : { w' // S w' }, i.val.cell? ⟨w.heap.size, 0, none⟩ = some (.int .i64 op) := fun i => ((HS.out _).1 i.property).1
 have k1 : ∀ i : { w' // S w' }, i.val.cell? ⟨w.heap.size, 1, none⟩ = some (.int .i64 a) := fun i => ((HS.out _).1 i.property).2
 have hne : Nonempty { w' // S w' } := ⟨⟨w.alloc (.cells #[.int .i64 op, .int .i64 a, .int .i64 b, .int .i64 c, .int .i64 n] 59), (HS.out _).2 (by go_simp)⟩⟩
 have hwr := J27
 have Hop : Hid (∀ w : World, Calls Try.prog 55 #[.int .i64 (op - 20), .int .i64 (r b.toNat), .int .i64 (r c.toNat)] w fun e w' => e = .returned (.int .i64 (opI (op - 20) (r b.toNat) (r c.toNat))) ∧ More w w') := fun w => Je1 _ _ _ hb.1 hb.2 hc.1 hc.2 w
 obtain ⟨v, hv⟩ : ∃ v, opI (op - 20) (r b.toNat) (r c.toNat) = v := ⟨_, rfl⟩
 rw [hv] at Hop
 rw [hv]
 have hs : wrap64 (op - 20) = op - 20 := by unfold wrap64; omega
 obtain ⟨q, hq⟩ : ∃ q, op - 20 = q := ⟨_, rfl⟩
 rw [hq] at Hop hs
 have t29 : (op == 29) = false := by simp [h29]
 have t30 : (op == 30) = false := by simp [h30]
 clear h29 h30
 clear hr hrW hb hc hv
 go_enter Try.func35, Try.ntmps35
 go_wp2_with (fail)
 refine J01 (S := S) [(0, true), (1, true), (2, true), (3, true), (4, true), (5, true), (6, true), (7, true), (8, false), (9, true), (10, false)] (by kernel_rfl) (by kernel_rfl) (by kernel_rfl) ((HS.out _).2 (by go_simp)) ?_
 iterate 8 (refine J00 rfl (by kernel_rfl) (fun K hK => ?_); go_simp; refine hK _ _ ?_; clear hK K)
 refine J02 rfl (by kernel_rfl) (fun K hK => ?_); go_simp
 refine (Hop.out _).mono ?_
 rintro e w1 ⟨rfl, m1⟩
 have e0 : w1.cell? ⟨w.heap.size, 0, none⟩ = some (.int .i64 op) := m1.cell (by go_simp)
 have e1 : w1.cell? ⟨w.heap.size, 1, none⟩ = some (.int .i64 a) := m1.cell (by go_simp)
 have Hr1 : Hid (RegsR w1 g r) := ((Hr.out.alloc _ _).drew).more m1
 have c1a := (Hr1.out a.toNat (by omega)).1
 have f1a := (Hr1.out a.toNat (by omega)).2
 have Hg1 : Hid (w.grownBy w1 (some g)) := J7s (J2e (J1u (J0n _ _) _)) m1
 clear m1
 go_simp
 refine hK _ _ ((HS.out _).2 ⟨e0, e1⟩) ?_; clear hK K
 refine J00 rfl (by kernel_rfl) (fun K hK => ?_); go_simp; refine hK _ _ ?_; clear hK K
 refine J02 rfl (by kernel_rfl) (fun K hK => ?_); go_simp
 have e0' : (w1.setCell ⟨g, a.toNat, none⟩ (.int .i64 v)).cell? ⟨w.heap.size, 0, none⟩ = some (.int .i64 op) := by rw [World.cell?_setCell_other _ _ _ _ (by simp <;> omega)]; exact e0
 have e1' : (w1.setCell ⟨g, a.toNat, none⟩ (.int .i64 v)).cell? ⟨w.heap.size, 1, none⟩ = some (.int .i64 a) := by rw [World.cell?_setCell_other _ _ _ _ (by simp <;> omega)]; exact e1
 refine hK _ _ ((HS.out _).2 ⟨e0', e1'⟩) ?_; clear hK K
 refine J04 ?_
 have Hr2 : Hid (RegsR (w1.setCell ⟨g, a.toNat, none⟩ (.int .i64 v)) g (setR r a v)) := Hr1.out.set a v
 have Hg2 : Hid (w.grownBy (w1.setCell ⟨g, a.toNat, none⟩ (.int .i64 v)) (some g)) := J10 Hg1.out _ _
 obtain ⟨w3, hw3⟩ : ∃ w3, w1.setCell ⟨g, a.toNat, none⟩ (.int .i64 v) = w3 := ⟨_, rfl⟩
 rw [hw3] at e0' Hr2 Hg2 ⊢
 clear hw3 k0 k1 hne ca fa cb fb cx fx c1a f1a e0 e1 e1' hwr
 go_wp2
 go_ret
 exact ⟨rfl, Hr2.out, Hg2.out⟩

set_option maxHeartbeats 1000000 in
theorem Jcb (op a b c n : Int) (g : Nat) {gc : Nat} (r : Nat → Int) (w : World) (hr : RegsR w g r) (o0 : 21 ≤ op) (o1 : op ≤ 30) (a0 : 0 ≤ a) (a1 : a < 10) (b0 : 0 ≤ b) (b1 : b < 10) (c0 : 0 ≤ c) (c1 : c < 10) (h : op = 29) (hb : B64 (r b.toNat)) (hc : B64 (r c.toNat)) :
  Calls Try.prog 35 #[.slice (some ⟨g, 0, none⟩) 10 gc, .agg #[.int .i64 op, .int .i64 a, .int .i64 b, .int .i64 c, .int .i64 n]] w fun e w' => ∃ sv, e = .returned sv ∧ SeenAt w' sv ([⟨3, r b.toNat, r c.toNat⟩]) ∧ RegsR w' g (setR r a (opI (op - 20) (r b.toNat) (r c.toNat))) ∧ w.grownBy w' (some g) := by
 have Hr : Hid (RegsR w g r) := hr
 have hrW : RegsR (w.alloc (.cells #[.int .i64 op, .int .i64 a, .int .i64 b, .int .i64 c, .int .i64 n] 59)) g r := hr.alloc _ _
 have hg : g < w.heap.size := J05 (hr 0 (by omega)).1
 have ca := (hr a.toNat (by omega)).1
 have fa := (hr a.toNat (by omega)).2
 have cb := (hr b.toNat (by omega)).1
 have fb := (hr b.toNat (by omega)).2
 have cx := (hr c.toNat (by omega)).1
 have fx := (hr c.toNat (by omega)).2
 obtain ⟨S, HS⟩ : ∃ S : World → Prop, Hid (∀ w', S w' ↔ w'.cell? ⟨w.heap.size, 0, none⟩ = some (.int .i64 op) ∧ w'.cell? ⟨w.heap.size, 1, none⟩ = some (.int .i64 a)) := ⟨_, fun _ => Iff.rfl⟩
 have k0 : ∀ i : { w' // S w' }, i.val.cell? ⟨w.heap.size, 0, none⟩ = some (.int .i64 op) := fun i => ((HS.out _).1 i.property).1
 have k1 : ∀ i : { w' // S w' }, i.val.cell? ⟨w.heap.size, 1, none⟩ = some (.int .i64 a) := fun i => ((HS.out _).1 i.property).2
 have hne : Nonempty { w' // S w' } := ⟨⟨w.alloc (.cells #[.int .i64 op, .int .i64 a, .int .i64 b, .int .i64 c, .int .i64 n] 59), (HS.out _).2 (by go_simp)⟩⟩
 have hwr := J27
 have Hop : Hid (∀ w : World, Calls Try.prog 55 #[.int .i64 (op - 20), .int .i64 (r b.toNat), .int .i64 (r c.toNat)] w fun e w' => e = .returned (.int .i64 (opI (op - 20) (r b.toNat) (r c.toNat))) ∧ More w w') := fun w => Je1 _ _ _ hb.1 hb.2 hc.1 hc.2 w
 obtain ⟨v, hv⟩ : ∃ v, opI (op - 20) (r b.toNat) (r c.toNat) = v := ⟨_, rfl⟩
 rw [hv] at Hop
 rw [hv]
 have hs : wrap64 (op - 20) = op - 20 := by unfold wrap64; omega
 obtain ⟨q, hq⟩ : ∃ q, op - 20 = q := ⟨_, rfl⟩
 rw [hq] at Hop hs
 have Hh : Hid (op = 29) := h
 clear h
 clear hr hrW hb hc hv
 go_enter Try.func35, Try.ntmps35
 go_wp2_with (fail)
 refine J01 (S := S) [(0, true), (1, true), (2, true), (3, true), (4, true), (5, true), (6, true), (7, true), (8, false), (9, true), (10, false)] (by kernel_rfl) (by kernel_rfl) (by kernel_rfl) ((HS.out _).2 (by go_simp)) ?_
 iterate 8 (refine J00 rfl (by kernel_rfl) (fun K hK => ?_); go_simp; refine hK _ _ ?_; clear hK K)
 refine J02 rfl (by kernel_rfl) (fun K hK => ?_); go_simp
 refine (Hop.out _).mono ?_
 rintro e w1 ⟨rfl, m1⟩
 have e0 : w1.cell? ⟨w.heap.size, 0, none⟩ = some (.int .i64 op) := m1.cell (by go_simp)
 have e1 : w1.cell? ⟨w.heap.size, 1, none⟩ = some (.int .i64 a) := m1.cell (by go_simp)
 have Hr1 : Hid (RegsR w1 g r) := ((Hr.out.alloc _ _).drew).more m1
 have c1a := (Hr1.out a.toNat (by omega)).1
 have f1a := (Hr1.out a.toNat (by omega)).2
 have Hg1 : Hid (w.grownBy w1 (some g)) := J7s (J2e (J1u (J0n _ _) _)) m1
 clear m1
 go_simp
 refine hK _ _ ((HS.out _).2 ⟨e0, e1⟩) ?_; clear hK K
 refine J00 rfl (by kernel_rfl) (fun K hK => ?_); go_simp; refine hK _ _ ?_; clear hK K
 refine J02 rfl (by kernel_rfl) (fun K hK => ?_); go_simp
 have e0' : (w1.setCell ⟨g, a.toNat, none⟩ (.int .i64 v)).cell? ⟨w.heap.size, 0, none⟩ = some (.int .i64 op) := by rw [World.cell?_setCell_other _ _ _ _ (by simp <;> omega)]; exact e0
 have e1' : (w1.setCell ⟨g, a.toNat, none⟩ (.int .i64 v)).cell? ⟨w.heap.size, 1, none⟩ = some (.int .i64 a) := by rw [World.cell?_setCell_other _ _ _ _ (by simp <;> omega)]; exact e1
 refine hK _ _ ((HS.out _).2 ⟨e0', e1'⟩) ?_; clear hK K
 refine J04 ?_
 have Hr2 : Hid (RegsR (w1.setCell ⟨g, a.toNat, none⟩ (.int .i64 v)) g (setR r a v)) := Hr1.out.set a v
 have Hg2 : Hid (w.grownBy (w1.setCell ⟨g, a.toNat, none⟩ (.int .i64 v)) (some g)) := J10 Hg1.out _ _
 obtain ⟨w3, hw3⟩ : ∃ w3, w1.setCell ⟨g, a.toNat, none⟩ (.int .i64 v) = w3 := ⟨_, rfl⟩
 rw [hw3] at e0' Hr2 Hg2 ⊢
 clear hw3 k0 k1 hne ca fa cb fb cx fx c1a f1a e0 e1 e1' hwr
 obtain rfl := Hh.out
 go_wp2
 go_ret
 refine ⟨_, rfl, ⟨some ⟨w3.heap.size, 0, none⟩, w3.heap.size, 0, 1, rfl, fun _ => rfl, fun i s h => ?_, by simp⟩, by repeat (first | exact Hr2.out | apply RegsR.drew | apply RegsR.alloc), by repeat (first | exact Hg2.out | apply J2e | apply J1u)⟩
 have hi : i = 0 := by have := (List.getElem?_eq_some_iff.1 h).1; simp at this; omega
 subst hi
 simp at h
 subst h
 refine ⟨?_, ?_, ?_⟩ <;> go_simp

set_option maxHeartbeats 1000000 in
theorem Jcc (op a b c n : Int) (g : Nat) {gc : Nat} (r : Nat → Int) (w : World) (hr : RegsR w g r) (o0 : 21 ≤ op) (o1 : op ≤ 30) (a0 : 0 ≤ a) (a1 : a < 10) (b0 : 0 ≤ b) (b1 : b < 10) (c0 : 0 ≤ c) (c1 : c < 10) (h : op = 30) (hb : B64 (r b.toNat)) (hc : B64 (r c.toNat)) :
  Calls Try.prog 35 #[.slice (some ⟨g, 0, none⟩) 10 gc, .agg #[.int .i64 op, .int .i64 a, .int .i64 b, .int .i64 c, .int .i64 n]] w fun e w' => ∃ sv, e = .returned sv ∧ SeenAt w' sv ([⟨3, r b.toNat, r c.toNat⟩]) ∧ RegsR w' g (setR r a (opI (op - 20) (r b.toNat) (r c.toNat))) ∧ w.grownBy w' (some g) := by
 have Hr : Hid (RegsR w g r) := hr
 have hrW : RegsR (w.alloc (.cells #[.int .i64 op, .int .i64 a, .int .i64 b, .int .i64 c, .int .i64 n] 59)) g r := hr.alloc _ _
 have hg : g < w.heap.size := J05 (hr 0 (by omega)).1
 have ca := (hr a.toNat (by omega)).1
 have fa := (hr a.toNat (by omega)).2
 have cb := (hr b.toNat (by omega)).1
 have fb := (hr b.toNat (by omega)).2
 have cx := (hr c.toNat (by omega)).1
 have fx := (hr c.toNat (by omega)).2
 obtain ⟨S, HS⟩ : ∃ S : World → Prop, Hid (∀ w', S w' ↔ w'.cell? ⟨w.heap.size, 0, none⟩ = some (.int .i64 op) ∧ w'.cell? ⟨w.heap.size, 1, none⟩ = some (.int .i64 a)) := ⟨_, fun _ => Iff.rfl⟩
 have k0 : ∀ i : { w' // S w' }, i.val.cell? ⟨w.heap.size, 0, none⟩ = some (.int .i64 op) := fun i => ((HS.out _).1 i.property).1
 have k1 : ∀ i : { w' // S w' }, i.val.cell? ⟨w.heap.size, 1, none⟩ = some (.int .i64 a) := fun i => ((HS.out _).1 i.property).2
 have hne : Nonempty { w' // S w' } := ⟨⟨w.alloc (.cells #[.int .i64 op, .int .i64 a, .int .i64 b, .int .i64 c, .int .i64 n] 59), (HS.out _).2 (by go_simp)⟩⟩
 have hwr := J27
 have Hop : Hid (∀ w : World, Calls Try.prog 55 #[.int .i64 (op - 20), .int .i64 (r b.toNat), .int .i64 (r c.toNat)] w fun e w' => e = .returned (.int .i64 (opI (op - 20) (r b.toNat) (r c.toNat))) ∧ More w w') := fun w => Je1 _ _ _ hb.1 hb.2 hc.1 hc.2 w
 obtain ⟨v, hv⟩ : ∃ v, opI (op - 20) (r b.toNat) (r c.toNat) = v := ⟨_, rfl⟩
 rw [hv] at Hop
 rw [hv]
 have hs : wrap64 (op - 20) = op - 20 := by unfold wrap64; omega
 obtain ⟨q, hq⟩ : ∃ q, op - 20 = q := ⟨_, rfl⟩
 rw [hq] at Hop hs
 have Hh : Hid (op = 30) := h
 clear h
 clear hr hrW hb hc hv
 go_enter Try.func35, Try.ntmps35
 go_wp2_with (fail)
 refine J01 (S := S) [(0, true), (1, true), (2, true), (3, true), (4, true), (5, true), (6, true), (7, true), (8, false), (9, true), (10, false)] (by kernel_rfl) (by kernel_rfl) (by kernel_rfl) ((HS.out _).2 (by go_simp)) ?_
 iterate 8 (refine J00 rfl (by kernel_rfl) (fun K hK => ?_); go_simp; refine hK _ _ ?_; clear hK K)
 refine J02 rfl (by kernel_rfl) (fun K hK => ?_); go_simp
 refine (Hop.out _).mono ?_
 rintro e w1 ⟨rfl, m1⟩
 have e0 : w1.cell? ⟨w.heap.size, 0, none⟩ = some (.int .i64 op) := m1.cell (by go_simp)
 have e1 : w1.cell? ⟨w.heap.size, 1, none⟩ = some (.int .i64 a) := m1.cell (by go_simp)
 have Hr1 : Hid (RegsR w1 g r) := ((Hr.out.alloc _ _).drew).more m1
 have c1a := (Hr1.out a.toNat (by omega)).1
 have f1a := (Hr1.out a.toNat (by omega)).2
 have Hg1 : Hid (w.grownBy w1 (some g)) := J7s (J2e (J1u (J0n _ _) _)) m1
 clear m1
 go_simp
 refine hK _ _ ((HS.out _).2 ⟨e0, e1⟩) ?_; clear hK K
 refine J00 rfl (by kernel_rfl) (fun K hK => ?_); go_simp; refine hK _ _ ?_; clear hK K
 refine J02 rfl (by kernel_rfl) (fun K hK => ?_); go_simp
 have e0' : (w1.setCell ⟨g, a.toNat, none⟩ (.int .i64 v)).cell? ⟨w.heap.size, 0, none⟩ = some (.int .i64 op) := by rw [World.cell?_setCell_other _ _ _ _ (by simp <;> omega)]; exact e0
 have e1' : (w1.setCell ⟨g, a.toNat, none⟩ (.int .i64 v)).cell? ⟨w.heap.size, 1, none⟩ = some (.int .i64 a) := by rw [World.cell?_setCell_other _ _ _ _ (by simp <;> omega)]; exact e1
 refine hK _ _ ((HS.out _).2 ⟨e0', e1'⟩) ?_; clear hK K
 refine J04 ?_
 have Hr2 : Hid (RegsR (w1.setCell ⟨g, a.toNat, none⟩ (.int .i64 v)) g (setR r a v)) := Hr1.out.set a v
 have Hg2 : Hid (w.grownBy (w1.setCell ⟨g, a.toNat, none⟩ (.int .i64 v)) (some g)) := J10 Hg1.out _ _
 obtain ⟨w3, hw3⟩ : ∃ w3, w1.setCell ⟨g, a.toNat, none⟩ (.int .i64 v) = w3 := ⟨_, rfl⟩
 rw [hw3] at e0' Hr2 Hg2 ⊢
 clear hw3 k0 k1 hne ca fa cb fb cx fx c1a f1a e0 e1 e1' hwr
 obtain rfl := Hh.out
 go_wp2
 go_ret
 refine ⟨_, rfl, ⟨some ⟨w3.heap.size, 0, none⟩, w3.heap.size, 0, 1, rfl, fun _ => rfl, fun i s h => ?_, by simp⟩, by repeat (first | exact Hr2.out | apply RegsR.drew | apply RegsR.alloc), by repeat (first | exact Hg2.out | apply J2e | apply J1u)⟩
 have hi : i = 0 := by have := (List.getElem?_eq_some_iff.1 h).1; simp at this; omega
 subst hi
 simp at h
 subst h
 refine ⟨?_, ?_, ?_⟩ <;> go_simp
theorem J2c (w : World) : SeenAt w (.slice none 0 0) [] := ⟨none, 0, 0, 0, rfl, fun h => absurd h (Nat.not_lt_zero _), fun i s h => by simp at h, by simp⟩

theorem J83 (i : Ins) (g : Nat) {gc : Nat} (r : Nat → Int) (w : World) (hr : RegsR w g r) (hb : ∀ j, j < 10 → B64 (r j)) {rl : Nat} {log : Nat → Int} {cl : Nat} (hi : InsOk rl log cl 10 i)
  (h3 : ¬ i.op = 3) (h4 : ¬ i.op = 4) (h5 : ¬ i.op = 5) (h6 : ¬ i.op = 6) (h7 : ¬ i.op = 7) (h8 : ¬ i.op = 8) (h9 : ¬ i.op = 9) :
  Calls Try.prog 35 #[.slice (some ⟨g, 0, none⟩) 10 gc, .agg #[.int .i64 i.op, .int .i64 i.a, .int .i64 i.b, .int .i64 i.c, .int .i64 i.n]] w fun e w' =>
   ∃ sv, e = .returned sv ∧ (((regsI r i).2 = [] ∧ sv = .slice none 0 0) ∨ ∃ t, (regsI r i).2 = [t]) ∧ SeenAt w' sv (regsI r i).2 ∧ RegsR w' g (regsI r i).1 ∧ w.grownBy w' (some g) := by
 obtain ⟨op, a, b, c, n⟩ := i
 dsimp only at h3 h4 h5 h6 h7 h8 h9 ⊢
 unfold InsOk at hi
 unfold regsI
 dsimp only at hi ⊢
 by_cases h1 : op = 1
 ·subst h1
  simp only [if_true] at hi ⊢
  refine (reg_1 a b c n g r w hr hi.1.1 hi.1.2).mono ?_
  rintro e w' ⟨rfl, k1, k2⟩
  exact ⟨_, rfl, .inl (by simp), J2c _, k1, k2⟩
 rw [if_neg h1] at hi ⊢
 by_cases h2 : op = 2
 ·subst h2
  simp only [if_true] at hi ⊢
  refine (reg_2 a b c n g r w hr hi.1.1 hi.1.2 hi.2.1.1 hi.2.1.2).mono ?_
  rintro e w' ⟨rfl, k1, k2⟩
  exact ⟨_, rfl, .inl (by simp), J2c _, k1, k2⟩
 rw [if_neg h2] at hi ⊢
 rw [if_neg h3, if_neg h4, if_neg h5, if_neg h6, if_neg h7, if_neg h8, if_neg h9] at hi
 by_cases h10 : op = 10
 ·subst h10
  simp only [if_true] at hi ⊢
  refine (Jke a b c n g r w hr hi.1.1 hi.1.2 hi.2.1.1 hi.2.1.2).mono ?_
  rintro e w' ⟨rfl, k1, k2⟩
  exact ⟨_, rfl, .inl (by simp), J2c _, k1, k2⟩
 rw [if_neg h10] at hi ⊢
 by_cases h11 : op = 11
 ·subst h11
  simp only [if_true] at hi ⊢
  by_cases hlo : r a.toNat < 0
  ·rw [if_pos (Or.inl hlo)]
   refine (Je5 a b c n g r _ w hr rfl hi.1.1 hi.1.2 hlo).mono ?_
   rintro e w' ⟨rfl, k1, k2⟩
   exact ⟨_, rfl, .inl (by simp), J2c _, k1, k2⟩
  ·by_cases hhi : n ≤ r a.toNat
   ·rw [if_pos (Or.inr hhi)]
    refine (Je3 a b c n g r _ w hr rfl hi.1.1 hi.1.2 hlo hhi).mono ?_
    rintro e w' ⟨rfl, k1, k2⟩
    exact ⟨_, rfl, .inl (by simp), J2c _, k1, k2⟩
   ·rw [if_neg (by omega)]
    refine (Je4 a b c n g r _ w hr rfl hi.1.1 hi.1.2 hlo (by omega)).mono ?_
    rintro e w' ⟨rfl, k1, k2⟩
    exact ⟨_, rfl, .inl (by simp), J2c _, k1, k2⟩
 rw [if_neg h11] at hi ⊢
 by_cases h12 : op = 12
 ·subst h12
  simp only [if_true] at hi ⊢
  refine (Jkf a b c n g r w hr).mono ?_
  rintro e w' ⟨rfl, k1, k2⟩
  exact ⟨_, rfl, .inl (by simp), J2c _, k1, k2⟩
 rw [if_neg h12] at hi ⊢
 obtain ⟨⟨o0, o1⟩, ⟨a0, a1⟩, ⟨b0, b1⟩, ⟨c0, c1⟩, _⟩ := hi
 have hb1 := hb b.toNat (by omega)
 have hb2 := hb c.toNat (by omega)
 by_cases h29 : op = 29
 ·rw [if_pos (Or.inl h29)]
  refine (Jcb op a b c n g r w hr o0 o1 a0 a1 b0 b1 c0 c1 h29 hb1 hb2).mono ?_
  rintro e w' ⟨sv, rfl, k0, k1, k2⟩
  exact ⟨sv, rfl, .inr ⟨_, rfl⟩, k0, k1, k2⟩
 by_cases h30 : op = 30
 ·rw [if_pos (Or.inr h30)]
  refine (Jcc op a b c n g r w hr o0 o1 a0 a1 b0 b1 c0 c1 h30 hb1 hb2).mono ?_
  rintro e w' ⟨sv, rfl, k0, k1, k2⟩
  exact ⟨sv, rfl, .inr ⟨_, rfl⟩, k0, k1, k2⟩
 rw [if_neg (by omega)]
 refine (Je6 op a b c n g r w hr o0 o1 a0 a1 b0 b1 c0 c1 h29 h30 hb1 hb2).mono ?_
 rintro e w' ⟨rfl, k1, k2⟩
 exact ⟨_, rfl, .inl (by simp), J2c _, k1, k2⟩

theorem Jdz (i : Ins) (g : Nat) {gc : Nat} (r : Nat → Int) (w : World) (hr : RegsR w g r) (b0 : 0 ≤ i.b) (b1 : i.b < 10) :
  Calls Try.prog 33 #[.slice (some ⟨g, 0, none⟩) 10 gc, .agg #[.int .i64 i.op, .int .i64 i.a, .int .i64 i.b, .int .i64 i.c, .int .i64 i.n]] w fun e w' => e = .returned (.int .i64 (idxI r i)) ∧ More w w' := by
 unfold idxI
 by_cases h : i.op = 5 ∨ i.op = 6
 ·rw [if_pos h]
  exact Jab i.op i.a i.b i.c i.n _ h w
 ·rw [if_neg h]
  exact Jac i.op i.a i.b i.c i.n g (r i.b.toNat) (fun e => h (.inl e)) (fun e => h (.inr e)) b0 b1 w (hr i.b.toNat (by omega)).1
end
section
open Go.RowKit
set_option linter.unusedVariables false
theorem info2 : (Try.prog.info? 2).map (fun i => (i.zero, i.size, i.bytes)) = some (some (.int .i64 0), 1, 8) := by kernel_rfl
theorem Jhv : (Try.prog.info? 70).map (fun i => (i.zero, i.size, i.bytes)) = some (some (.slice none 0 0), 1, 24) := by kernel_rfl

def J2d (m : Mem) (j : Nat) : List Value := (List.range (m.len j)).map fun i => .int .i64 (m.wd j i)
theorem J2i (m : Mem) (j : Nat) : (J2d m j).length = m.len j := by simp [J2d]
theorem J7j (m : Mem) (j : Nat) : ∀ u ∈ J2d m j, u.oneCell' = true := by
 intro u hu
 simp only [J2d, List.mem_map] at hu
 obtain ⟨i, _, rfl⟩ := hu
 rfl
theorem J3z (m : Mem) (j i : Nat) (h : i < m.len j) : (J2d m j)[i]? = some (.int .i64 (m.wd j i)) := by simp [J2d, h]

structure CpAt (w : World) (base : Nat) (m : Mem) (k : Nat) (v : Value) (G C : Nat → Nat) : Prop where
 own : w.ownsRow base 70 1 v k ((List.range k).map fun j => .slice (some ⟨G j, 0, none⟩) (m.len j) (C j))
 row : ∀ j, j < k → w.ownsRow base 2 1 (.slice (some ⟨G j, 0, none⟩) (m.len j) (C j)) (m.len j) (J2d m j)
 apart : ∀ j, j < k → v.ownBlock ≠ some (G j)
 apart2 : ∀ j j', j < k → j' < k → j ≠ j' → G j ≠ G j'

theorem CpAt.start (w : World) (base : Nat) (m : Mem) : CpAt w base m 0 (.slice none 0 0) (fun _ => 0) (fun _ => 0) :=
 ⟨World.ownsRow_nil _ _ _ _, fun j hj => absurd hj (Nat.not_lt_zero _), fun j hj => absurd hj (Nat.not_lt_zero _), fun j j' hj => absurd hj (Nat.not_lt_zero _)⟩

theorem CpAt.lt {w : World} {base : Nat} {m : Mem} {k : Nat} {v : Value} {G C : Nat → Nat} (c : CpAt w base m k v G C) (j : Nat) (hj : j < k) : G j < w.heap.size := ((c.row j hj).lt _ rfl).2

theorem CpAt.own3 {wr w2 : World} {base : Nat} {m : Mem} {k : Nat} {v : Value} {G C : Nat → Nat} (c : CpAt wr base m k v G C) (o o3 : Obj) (gr2 : (wr.alloc o).grownBy w2 (some wr.heap.size)) :
  (w2.alloc o3).ownsRow base 70 1 v k ((List.range k).map fun j => .slice (some ⟨G j, 0, none⟩) (m.len j) (C j)) :=
 ((c.own.alloc o).kept gr2 (by
  cases hb : v.ownBlock with
  | none => left; rfl
  | some b => right; have := (c.own.lt b hb).2; simp; omega)).alloc o3

theorem CpAt.step {wr w2 w4 : World} {base : Nat} {m : Mem} {k : Nat} {v : Value} {G C : Nat → Nat} (c : CpAt wr base m k v G C) (o o3 : Obj) (g cap g2 cap2 : Nat)
  (own2 : w2.ownsRow base 2 1 (.slice (some ⟨g, 0, none⟩) (m.len k) cap) (m.len k) (J2d m k)) (gr2 : (wr.alloc o).grownBy w2 (some wr.heap.size)) (hg : wr.heap.size ≤ g)
  (own4 : w4.ownsRow base 70 1 (.slice (some ⟨g2, 0, none⟩) (k + 1) cap2) (k + 1) (((List.range k).map fun j => .slice (some ⟨G j, 0, none⟩) (m.len j) (C j)) ++ [.slice (some ⟨g, 0, none⟩) (m.len k) cap]))
  (gr4 : (w2.alloc o3).grownBy w4 v.ownBlock) (hat : v.ownBlock = some g2 ∨ g2 = w2.heap.size + 1) :
  CpAt w4 base m (k + 1) (.slice (some ⟨g2, 0, none⟩) (k + 1) cap2) (fun j => if j = k then g else G j) (fun j => if j = k then cap else C j) := by
 have hs1 : wr.heap.size + 1 ≤ w2.heap.size := by have := gr2.size; simpa using this
 have hgl : g < w2.heap.size := ((own2.lt _ rfl).2)
 have hvl : ∀ b, v.ownBlock = some b → b < wr.heap.size := fun b hb => ((c.own.lt b hb).2)
 refine ⟨?_, fun j hj => ?_, fun j hj => ?_, fun j j' hj hj' hne => ?_⟩
 ·have e : ((List.range (k + 1)).map fun j => (Value.slice (some ⟨(if j = k then g else G j), 0, none⟩) (m.len j) (if j = k then cap else C j)))
    = ((List.range k).map fun j => (Value.slice (some ⟨G j, 0, none⟩) (m.len j) (C j))) ++ [.slice (some ⟨g, 0, none⟩) (m.len k) cap] := by
   rw [List.range_succ, List.map_append]
   congr 1
   ·refine List.map_congr_left fun j hj => ?_
    have : j ≠ k := by have := List.mem_range.1 hj; omega
    simp [this]
   ·simp
  rw [e]
  exact own4
 ·by_cases e : j = k
  ·subst e
   simp only [if_true]
   exact (own2.alloc o3).kept gr4 (by
    cases hb : v.ownBlock with
    | none => right; simp [Value.ownBlock]
    | some b => right; have := hvl b hb; simp [Value.ownBlock]; omega)
  ·simp only [e, if_false]
   have hj' : j < k := by omega
   have hl := c.lt j hj'
   refine ((((c.row j hj').alloc o).kept gr2 (by right; simp [Value.ownBlock]; omega)).alloc o3).kept gr4 (by right; simp only [Value.ownBlock]; exact fun h => c.apart j hj' h.symm)
 ·simp only [Value.ownBlock]
  intro h
  simp only [Option.some.injEq] at h
  by_cases e : j = k
  ·simp only [e, if_true] at h
   rcases hat with h1 | h1
   ·have := hvl g2 h1; omega
   ·omega
  ·simp only [e, if_false] at h
   have hj' : j < k := by omega
   rcases hat with h1 | h1
   ·exact c.apart j hj' (by rw [h1, h])
   ·have := c.lt j hj'; omega
 ·by_cases e : j = k
  ·by_cases e' : j' = k
   ·omega
   ·simp only [e, e', if_true, if_false]
    have := c.lt j' (by omega)
    omega
  ·by_cases e' : j' = k
   ·simp only [e, e', if_true, if_false]
    have := c.lt j (by omega)
    omega
   ·simp only [e, e', if_false]
    exact c.apart2 j j' (by omega) (by omega) hne
def flatS : List Se → List Value
 | [] => []
 | s :: l => .int .i64 s.kind :: .int .i64 s.a :: .int .i64 s.b :: flatS l
theorem J5b : ∀ l : List Se, (flatS l).length = l.length * 3
 | [] => rfl
 | s :: l => by simp [flatS, J5b l]; omega
theorem J3r : ∀ l l' : List Se, flatS (l ++ l') = flatS l ++ flatS l'
 | [], _ => rfl
 | s :: l, l' => by simp [flatS, J3r l l']
theorem Jay : ∀ (l : List Se) (i : Nat) (s : Se), l[i]? = some s → (flatS l)[i * 3]? = some (.int .i64 s.kind) ∧ (flatS l)[i * 3 + 1]? = some (.int .i64 s.a) ∧ (flatS l)[i * 3 + 2]? = some (.int .i64 s.b)
 | [], i, s, h => by simp at h
 | x :: l, 0, s, h => by simp at h; subst h; simp [flatS]
 | x :: l, i + 1, s, h => by
  have := Jay l i s (by simpa using h)
  rw [show (i + 1) * 3 = i * 3 + 1 + 1 + 1 by omega, flatS]
  simpa using this

def SeenOwn (w : World) (base : Nat) (v : Value) (l : List Se) : Prop := w.ownsRow base 73 3 v l.length (flatS l)

theorem SeenOwn.at_ {w : World} {base : Nat} {v : Value} {l : List Se} (h : SeenOwn w base v l) (hb : l.length < 4611686018427387904) : SeenAt w v l := by
 by_cases h0 : l.length = 0
 ·rcases h.2 with ⟨rfl, _⟩ | ⟨g, cap, cur, rfl, _⟩
  ·have : l = [] := List.eq_nil_of_length_eq_zero h0
   subst this
   exact ⟨none, 0, 0, 0, rfl, fun h => absurd h (Nat.not_lt_zero _), fun i s h => by simp at h, by simp⟩
  ·have : l = [] := List.eq_nil_of_length_eq_zero h0
   subst this
   exact ⟨_, 0, 0, cap, rfl, fun h => absurd h (Nat.not_lt_zero _), fun i s h => by simp at h, by simp⟩
 ·obtain ⟨g, cap, rfl, _, _⟩ := World.ownsRow.form h (by omega)
  refine ⟨_, g, 0, cap, rfl, fun _ => rfl, fun i s hs => ?_, hb⟩
  have hi : i < l.length := (List.getElem?_eq_some_iff.1 hs).1
  obtain ⟨f0, f1, f2⟩ := Jay l i s hs
  simp only [Nat.zero_add]
  exact ⟨by rw [World.ownsRow.cellAt h _ (by omega)]; exact f0, by rw [World.ownsRow.cellAt h _ (by omega)]; exact f1, by rw [World.ownsRow.cellAt h _ (by omega)]; exact f2⟩

theorem SeenOwn.kept {w w' : World} {base : Nat} {v : Value} {l : List Se} (h : SeenOwn w base v l) {row : Option Nat} (hg : w.grownBy w' row) (hr : ∀ b, row = some b → b < base) : SeenOwn w' base v l := by
 refine World.ownsRow.kept h hg ?_
 cases hv : v.ownBlock with
 | none => left; rfl
 | some b =>
  right
  intro e
  have h1 := (World.ownsRow.lt h b hv).1
  have h2 := hr b e.symm
  omega

structure MemOwn (w : World) (lo hi : Nat) (m : Mem) (mv : Value) (mb mc : Nat) (G C : Nat → Nat) : Prop where
 val : 0 < m.ml → mv = .slice (some ⟨mb, 0, none⟩) m.ml mc ∧ lo ≤ mb ∧ mb < hi
 nil : m.ml = 0 → ∃ a c, mv = .slice a 0 c
 rows : ∀ j, j < m.ml → w.cell? ⟨mb, j, none⟩ = some (.slice (some ⟨G j, 0, none⟩) (m.len j) (C j))
 words : ∀ j, j < m.ml → ∀ i, i < m.len j → w.cell? ⟨G j, i, none⟩ = some (.int .i64 (m.wd j i)) ∧ w.frozen? ⟨G j, i, none⟩ = false
 at_ : ∀ j, j < m.ml → lo ≤ G j ∧ G j < hi ∧ G j ≠ mb
 apart : ∀ j j', j < m.ml → j' < m.ml → j ≠ j' → G j ≠ G j'

theorem CpAt.own_ {w : World} {base : Nat} {m : Mem} {v : Value} {G C : Nat → Nat} (c : CpAt w base m m.ml v G C) : ∃ mb mc, MemOwn w base w.heap.size m v mb mc G C := by
 by_cases h0 : m.ml = 0
 ·have hv : ∃ a cap, v = .slice a 0 cap := by
   rcases c.own.2 with ⟨h, _⟩ | ⟨g, cap, cur, h, _⟩
   ·exact ⟨_, _, h⟩
   ·exact ⟨_, cap, by rw [h, h0]⟩
  exact ⟨0, 0, fun h => by omega, fun _ => hv, fun j hj => by omega, fun j hj => by omega, fun j hj => by omega, fun j j' hj => by omega⟩
 ·obtain ⟨g, cap, rfl, hb, hl⟩ := World.ownsRow.form c.own (by omega)
  refine ⟨g, cap, fun _ => ⟨rfl, hb, hl⟩, fun h => absurd h h0, fun j hj => ?_, fun j hj i hi => ⟨?_, World.ownsRow.frozenAt (c.row j hj) i⟩, fun j hj => ⟨((c.row j hj).lt _ rfl).1, ((c.row j hj).lt _ rfl).2, fun e => c.apart j hj (by rw [e]; rfl)⟩, c.apart2⟩
  ·rw [World.ownsRow.cellAt c.own j (by omega)]
   simp [hj]
  ·rw [World.ownsRow.cellAt (c.row j hj) i (by omega)]
   exact J3z m j i hi

theorem MemOwn.in_ {w : World} {lo hi : Nat} {m : Mem} {mv : Value} {mb mc : Nat} {G C : Nat → Nat} (h : MemOwn w lo hi m mv mb mc G C) (f1 : m.ml < 4611686018427387904) (f2 : ∀ i, i < m.ml → m.len i < 4611686018427387904) :
  ∃ l : MLoc, mv = .slice l.ma m.ml l.mc ∧ MIn w m l := by
 by_cases h0 : m.ml = 0
 ·obtain ⟨a, c, hv⟩ := h.nil h0
  refine ⟨⟨a, 0, 0, c, fun _ => none, fun _ => 0, fun _ => 0, fun _ => 0⟩, by rw [hv, h0], fun h => by omega, fun j hj => by omega, fun j hj => by omega, fun j hj => by omega, f1, f2⟩
 ·refine ⟨⟨some ⟨mb, 0, none⟩, mb, 0, mc, fun j => some ⟨G j, 0, none⟩, C, G, fun _ => 0⟩, (h.val (by omega)).1, fun _ => rfl, fun j hj => ?_, fun j hj _ => rfl, fun j hj i hi => ?_, f1, f2⟩
  ·simpa using h.rows j hj
  ·simpa using (h.words j hj i hi).1
end
section
open Go.RowKit
set_option linter.unusedSimpArgs false
set_option linter.unusedVariables false
theorem J23 {w : World} {base : Nat} {e : TypeId} {size : Nat} {v : Value} {n : Nat} {xs : List Value} (h : w.ownsRow base e size v n xs) : ∃ a c, v = .slice a n c := by
 rcases h.2 with ⟨h, h0⟩ | ⟨g, cap, cur, h, _⟩
 ·exact ⟨none, 0, by rw [h, h0]⟩
 ·exact ⟨_, cap, h⟩
end
section
open Go.RowKit
set_option linter.unusedVariables false
def Wr (w : World) (b o : Nat) (v : Value) : Prop := w.cell? ⟨b, o, none⟩ = some v ∧ w.frozen? ⟨b, o, none⟩ = false
theorem Wr.kept {w w' : World} {row : Option Nat} (hg : w.grownBy w' row) {b o : Nat} {v : Value} (h : Wr w b o v) (hne : some b ≠ row) : Wr w' b o v :=
 ⟨hg.cell h.1 hne, (J62 hg h.1 hne).trans h.2⟩
theorem Wr.same {w : World} {b o : Nat} {v : Value} (h : Wr w b o v) (u : Value) : Wr (w.setCell ⟨b, o, none⟩ u) b o u :=
 ⟨World.cell?_setCell_same _ _ _ h.1, by rw [World.frozen?_setCell]; exact h.2⟩
theorem Wr.other {w : World} {b o : Nat} {v : Value} (h : Wr w b o v) (b' o' : Nat) (u : Value) (hne : b' ≠ b ∨ o' ≠ o) : Wr (w.setCell ⟨b', o', none⟩ u) b o v :=
 ⟨by rw [World.cell?_setCell_other _ _ _ _ (by intro e; simp only [Addr.mk.injEq] at e; omega)]; exact h.1, by rw [World.frozen?_setCell]; exact h.2⟩

section
variable {w wr w' : World} {rv cv : Value} {B : Nat} {s : St} {k : Nat} {sv mv : Value} {mb mc : Nat} {G C : Nat → Nat}

end
end
section
open Go.RowKit
set_option linter.unusedSimpArgs false
set_option linter.unusedVariables false
theorem Jiu (j : Nat) (h : j < 10) : (madeCells #[.int .i64 0] 10)[j]? = some (.int .i64 0) := by
 unfold madeCells
 simp [h, Nat.mod_one]
end
section
open Go.RowKit
set_option linter.unusedVariables false
theorem J2m {i : Ins} (h : i.op = 3 ∨ i.op = 5) : putI i = 0 := by unfold putI; rw [if_pos h]
theorem J3h {i : Ins} (h : i.op = 4 ∨ i.op = 6) : putI i = 1 := by unfold putI; rw [if_neg (by omega), if_pos h]
theorem Ja7 {i : Ins} (h3 : ¬ i.op = 3) (h4 : ¬ i.op = 4) (h5 : ¬ i.op = 5) (h6 : ¬ i.op = 6) : putI i = -1 := by unfold putI; rw [if_neg (by omega), if_neg (by omega)]

theorem J86 {p : Prg} {s : St} {i : Ins} (hI : p.ins s.at_ = i) (hop : i.op = 4 ∨ i.op = 6) (hx : ¬ (idxI s.r i < 0 ∨ (s.m.len i.c.toNat : Int) ≤ idxI s.r i)) :
  stepI p s = (⟨s.at_ + 1, s.r, setW s.m i.c.toNat (idxI s.r i).toNat (s.r i.a.toNat), s.seen ++ [⟨1, s.at_, 0⟩] ++ [⟨2, baseI p.log i.c.toNat + idxI s.r i, 1⟩]⟩, none) := by
 subst hI
 have hp := J3h hop
 unfold stepI
 rw [if_neg (by omega), if_neg (by omega), if_neg (by omega), if_pos (by rw [hp]; decide), if_neg hx, if_pos hp]

theorem J4v {p : Prg} {s : St} {i : Ins} (hI : p.ins s.at_ = i) (hop : i.op = 3 ∨ i.op = 5) (hx : ¬ (idxI s.r i < 0 ∨ (s.m.len i.c.toNat : Int) ≤ idxI s.r i)) :
  stepI p s = (⟨s.at_ + 1, setR s.r i.a (s.m.wd i.c.toNat (idxI s.r i).toNat), s.m, s.seen ++ [⟨1, s.at_, 0⟩] ++ [⟨2, baseI p.log i.c.toNat + idxI s.r i, 0⟩]⟩, none) := by
 subst hI
 have hp := J2m hop
 unfold stepI
 rw [if_neg (by omega), if_neg (by omega), if_neg (by omega), if_pos (by rw [hp]; decide), if_neg hx, if_neg (by rw [hp]; decide)]

theorem J39 {p : Prg} {s : St} {i : Ins} (hI : p.ins s.at_ = i) (h3 : ¬ i.op = 3) (h4 : ¬ i.op = 4) (h5 : ¬ i.op = 5) (h6 : ¬ i.op = 6) (h7 : ¬ i.op = 7) (h8 : ¬ i.op = 8) (h9 : ¬ i.op = 9) :
  stepI p s = (⟨s.at_ + 1, (regsI s.r i).1, s.m, s.seen ++ [⟨1, s.at_, 0⟩] ++ (regsI s.r i).2⟩, none) := by
 subst hI
 have hp := Ja7 h3 h4 h5 h6
 unfold stepI
 rw [if_neg h7, if_neg h8, if_neg h9, if_neg (by rw [hp]; decide)]
end
section
open Go.RowKit
set_option linter.unusedSimpArgs false
set_option linter.unusedVariables false
theorem Jj4 (o x y : Int) : B64 (opI o x y) := by
  unfold opI
  repeat' split
  all_goals first | exact J5k _ | exact J1e

theorem J48 {r : Nat → Int} (hr : ∀ j, j < 10 → B64 (r j)) (a v : Int) (hv : B64 v) : ∀ j, j < 10 → B64 (setR r a v j) := by
  intro j hj
  unfold setR
  split
  · exact hv
  · exact hr j hj

theorem Je7 {r : Nat → Int} (hr : ∀ j, j < 10 → B64 (r j)) (i : Ins) (hb : i.op = 2 → i.b.toNat < 10) (hn : B64 i.n) : ∀ j, j < 10 → B64 ((regsI r i).1 j) := by
  unfold regsI
  by_cases h1 : i.op = 1
  · rw [if_pos h1]; exact J48 hr _ _ hn
  rw [if_neg h1]
  by_cases h2 : i.op = 2
  · rw [if_pos h2]; exact J48 hr _ _ (hr _ (hb h2))
  rw [if_neg h2]
  by_cases h3 : i.op = 10
  · rw [if_pos h3]; exact J48 hr _ _ (J5k _)
  rw [if_neg h3]
  by_cases h4 : i.op = 11
  · rw [if_pos h4]
    dsimp only
    split
    · exact J48 hr _ _ J1e
    · exact hr
  rw [if_neg h4]
  by_cases h5 : i.op = 12
  · rw [if_pos h5]; exact hr
  rw [if_neg h5]
  exact J48 hr _ _ (Jj4 _ _ _)
theorem J96 (r : Nat → Int) (i : Ins) : (regsI r i).2.length ≤ 1 := by
  unfold regsI
  repeat' split
  all_goals first | exact Nat.zero_le _ | exact Nat.le_refl _

def baseN (len : Nat → Nat) : Nat → Nat
  | 0 => 0
  | k + 1 => baseN len k + len k
theorem Jap (len : Nat → Nat) : ∀ k, (∀ j, j < k → len j ≤ 64) → baseN len k ≤ 64 * k
  | 0, _ => by simp [baseN]
  | k + 1, h => by
    have := Jap len k (fun j hj => h j (by omega))
    have := h k (by omega)
    simp only [baseN]
    omega
theorem J44 (len : Nat → Nat) (a : Nat) : ∀ k, a ≤ k → baseN len a ≤ baseN len k
  | 0, h => by obtain rfl : a = 0 := by omega
               exact Nat.le_refl _
  | k + 1, h => by
    by_cases e : a = k + 1
    · subst e; exact Nat.le_refl _
    · have := J44 len a k (by omega)
      simp only [baseN]
      omega

theorem J7m (p : Prg) (m : Mem) (hlen : ∀ i, i < m.ml → (m.len i : Int) = J0h (p.log i)) : ∀ j, j ≤ m.ml → (baseN m.len j : Int) = baseI p.log j
  | 0, _ => rfl
  | j + 1, h => by
    simp only [baseN, baseI]
    rw [← J7m p m hlen j (by omega), ← hlen j (by omega)]
    push_cast
    rfl
end
section
open Go.RowKit
set_option linter.unusedVariables false
theorem J63 (k : Int) : hasI k 0 = true := by
 unfold hasI
 rw [decide_eq_true_eq]
 exact .inr ⟨Int.le_refl _, by rw [← J2l]; have := Nat.two_pow_pos (bnd k).toNat; omega⟩
theorem Jb2 (n : Int) : hasI 17 n = true := J7t (J1w (by omega) (by omega))

def Kn.has (k : Kn) (n : Int) : Prop := hasI k.b n = true
theorem Kn.has_mono {x y : Kn} (h : Kn.le x y) {n : Int} (hn : B64 n) (k : x.has n) : y.has n := J8m hn.1 hn.2 k h.1
theorem Kn.has_less {x y : Kn} {n m : Int} (hn : B64 n) (hm : B64 m) (hx : x.has n) (hy : y.has m) (h : toU n ≤ toU m) : (Kn.less x y).has n := Jd6 hn.1 hn.2 hm.1 hm.2 hx hy h
theorem Kn.has_op (o : Int) {x y : Kn} {n m : Int} (hn : B64 n) (hm : B64 m) (hx : x.has n) (hy : y.has m) : (Kn.op o x y).has (opI o n m) := Jfy o hn.1 hn.2 hm.1 hm.2 hx hy
theorem Kn.has_of {n : Int} (hn : B64 n) : (Kn.of n).has n := Jfp hn.1 hn.2
theorem Kn.has_index {x : Kn} {n m : Int} (hn : B64 n) (hm : B64 m) (hx : x.has n) : (Kn.index x m).has (wrap64 (n + m)) := by
 unfold Kn.index
 split
 ·exact Jb2 _
 ·have := Kn.has_op 1 hn hm hx (Kn.has_of hm)
  rw [opI_1] at this; exact this

def HasS (k : KS) (r : Nat → Int) : Prop := ∀ j, j < 8 → (k j).has (r j)
theorem HasS.mono {k t : KS} (h : leS k t) {r : Nat → Int} (hr : ∀ j, j < 8 → B64 (r j)) (q : HasS k r) : HasS t r := fun j hj => Kn.has_mono (h j hj) (hr j hj) (q j hj)
theorem HasS.set {k : KS} {r : Nat → Int} (h : HasS k r) (a : Int) {v : Kn} {n : Int} (q : v.has n) : HasS (setK k a v) (setR r a n) := fun j hj => by
 unfold setK setR
 by_cases e : j = a.toNat
 ·rw [if_pos e, if_pos e]; exact q
 ·rw [if_neg e, if_neg e]; exact h j hj
theorem HasS.know {k : KS} {r : Nat → Int} (h : HasS k r) (a : Int) {v : Kn} (q : v.has (r a.toNat)) : HasS (setK k a v) r := fun j hj => by
 unfold setK
 by_cases e : j = a.toNat
 ·rw [if_pos e, e]; exact q
 ·rw [if_neg e]; exact h j hj

theorem Jj5 (o a b : Int) : B64 (opI o a b) := by
 unfold opI
 repeat' split
 all_goals first | exact J5k _ | exact J1e

section
variable {p : Prg} {i : Ins} {k : KS} {r : Nat → Int}

theorem J64 (hi : InsOk p.rl p.log p.cl 8 i) (h8 : i.op = 8) (hr : ∀ j, j < 8 → B64 (r j)) (h : HasS k r) (q : toU (r i.a.toNat) ≤ toU (r i.b.toNat)) : HasS (J1c i k) r := by
 have hg := J1a hi
 have ha := hg.1 (by omega); have hb := hg.2.1 (by omega)
 exact h.know i.a (Kn.has_less (hr _ ha) (hr _ hb) (h _ ha) (h _ hb) q)
theorem J78 (hi : InsOk p.rl p.log p.cl 8 i) (h8 : i.op = 8) (hr : ∀ j, j < 8 → B64 (r j)) (h : HasS k r) (q : toU (r i.b.toNat) ≤ toU (r i.a.toNat)) : HasS (J12 i k) r := by
 have hg := J1a hi
 have ha := hg.1 (by omega); have hb := hg.2.1 (by omega)
 exact h.know i.b (Kn.has_less (hr _ hb) (hr _ ha) (h _ hb) (h _ ha) q)
theorem Jb3 (hi : InsOk p.rl p.log p.cl 8 i) (h8 : i.op = 8) (hr : ∀ j, j < 8 → B64 (r j)) (h : HasS k r) (q : toU (r i.a.toNat) = toU (r i.b.toNat)) : HasS (bothK i k) r := by
 have hg := J1a hi
 have ha := hg.1 (by omega); have hb := hg.2.1 (by omega)
 exact (J64 hi h8 hr h (Nat.le_of_eq q)).know i.b (Kn.has_less (hr _ hb) (hr _ ha) (h _ hb) (h _ ha) (Nat.le_of_eq q.symm))

theorem Jcu (hi : InsOk p.rl p.log p.cl 8 i) (h8 : i.op = 8) : i.c = 1 ∨ i.c = 2 ∨ i.c = 3 ∨ i.c = 4 := by
 unfold InsOk at hi
 simp [h8] at hi
 omega

theorem Jd8 (hi : InsOk p.rl p.log p.cl 8 i) (h8 : i.op = 8) (hr : ∀ j, j < 8 → B64 (r j)) (h : HasS k r) (q : J15 i.c (r i.a.toNat) (r i.b.toNat) = true) : HasS (yesK i k) r := by
 unfold yesK
 rcases Jcu hi h8 with hc | hc | hc | hc <;> rw [hc] at q ⊢ <;> simp [J15] at q ⊢
 ·exact Jb3 hi h8 hr h q
 ·exact h
 ·exact J64 hi h8 hr h (Nat.le_of_lt q)
 ·exact J78 hi h8 hr h q
theorem Jhs (hi : InsOk p.rl p.log p.cl 8 i) (h8 : i.op = 8) (hr : ∀ j, j < 8 → B64 (r j)) (h : HasS k r) (q : ¬ J15 i.c (r i.a.toNat) (r i.b.toNat) = true) : HasS (noK i k) r := by
 unfold noK
 rcases Jcu hi h8 with hc | hc | hc | hc <;> rw [hc] at q ⊢ <;> simp [J15] at q ⊢
 ·exact h
 ·exact Jb3 hi h8 hr h q
 ·exact J78 hi h8 hr h q
 ·exact J64 hi h8 hr h (Nat.le_of_lt q)

theorem Jg8 {x n : Int} (h1 : 1 ≤ n) (h2 : n ≤ 64) : wrap64 (n - 1) = n - 1 ∧ B64 (n - 1) := by
 refine ⟨?_, ?_⟩
 ·unfold wrap64; omega
 ·unfold B64; omega
theorem Jfq {x : Kn} {n m : Int} (hn : B64 n) (hx : x.has n) (h1 : 1 ≤ m) (h2 : m ≤ 64) (q : ¬ (n < 0 ∨ m ≤ n)) : (Kn.less x (Kn.of (wrap64 (m - 1)))).has n := by
 obtain ⟨e, hb⟩ := Jg8 (x := n) h1 h2
 rw [e]
 refine Kn.has_less hn hb hx (Kn.has_of hb) ?_
 unfold toU; omega

theorem Jfr (hi : InsOk p.rl p.log p.cl 8 i) (hn : B64 i.n) (h3 : ¬ i.op = 3) (h4 : ¬ i.op = 4) (h5 : ¬ i.op = 5) (h6 : ¬ i.op = 6) (h7 : ¬ i.op = 7) (h8 : ¬ i.op = 8) (h9 : ¬ i.op = 9)
  (hr : ∀ j, j < 8 → B64 (r j)) (h : HasS k r) : HasS (nextK p i k) (regsI r i).1 := by
 have hg := J1a hi
 unfold nextK regsI
 by_cases q1 : i.op = 1
 ·rw [if_pos q1, if_pos q1]; exact h.set _ (Kn.has_of hn)
 rw [if_neg q1, if_neg q1]
 by_cases q2 : i.op = 2
 ·rw [if_pos q2, if_pos q2]; exact h.set _ (h _ (hg.2.1 (by omega)))
 rw [if_neg q2, if_neg q2]
 by_cases q10 : i.op = 10
 ·rw [if_pos q10, if_pos q10]
  have hb := hg.2.1 (by omega)
  exact h.set _ (Kn.has_index (hr _ hb) hn (h _ hb))
 rw [if_neg q10, if_neg q10, if_neg (by omega)]
 by_cases q11 : i.op = 11
 ·rw [if_pos q11, if_pos q11]
  have ha := hg.1 (by omega)
  have hb : 1 ≤ i.n ∧ i.n ≤ 64 := by unfold InsOk at hi; simp [q11] at hi; omega
  by_cases q : r i.a.toNat < 0 ∨ i.n ≤ r i.a.toNat
  ·rw [if_pos q]; exact h.set _ (J63 _)
  ·rw [if_neg q]; exact h.know _ (Jfq (hr _ ha) (h _ ha) hb.1 hb.2 q)
 rw [if_neg q11, if_neg q11]
 by_cases q12 : i.op = 12
 ·rw [if_pos (.inr (.inr q12)), if_pos q12]; exact h
 rw [if_neg (by omega), if_neg q12]
 have hb := hg.2.1 (by omega); have hc := hg.2.2.1 (by omega)
 exact h.set _ (Kn.has_op _ (hr _ hb) (hr _ hc) (h _ hb) (h _ hc))
end

theorem J3i {r : Nat → Int} (h : ∀ j, j < 10 → B64 (r j)) (a : Int) {v : Int} (hv : B64 v) : ∀ j, j < 10 → B64 (setR r a v j) := fun j hj => by
 unfold setR; split
 ·exact hv
 ·exact h j hj
theorem Je8 {p : Prg} {r : Nat → Int} {i : Ins} (hi : InsOk p.rl p.log p.cl 8 i) (h : ∀ j, j < 10 → B64 (r j)) (hn : B64 i.n) : ∀ j, j < 10 → B64 ((regsI r i).1 j) := by
 have hg := J1a hi
 unfold regsI
 by_cases q1 : i.op = 1
 ·rw [if_pos q1]; exact J3i h _ hn
 rw [if_neg q1]
 by_cases q2 : i.op = 2
 ·rw [if_pos q2]; exact J3i h _ (h _ (by have := hg.2.1 (by omega); omega))
 rw [if_neg q2]
 by_cases q10 : i.op = 10
 ·rw [if_pos q10]; exact J3i h _ (J5k _)
 rw [if_neg q10]
 by_cases q11 : i.op = 11
 ·rw [if_pos q11]
  dsimp only
  split
  ·exact J3i h _ J1e
  ·exact h
 rw [if_neg q11]
 by_cases q12 : i.op = 12
 ·rw [if_pos q12]; exact h
 ·rw [if_neg q12]; exact J3i h _ (Jj5 _ _ _)

structure Sound (p : Prg) (m : Mem) (l : KV) (s : St) : Prop where
 at_ : s.at_ < p.cl
 kn : ∃ k, l s.at_ = some k ∧ HasS k s.r
 r : ∀ j, j < 10 → B64 (s.r j)
 ml : s.m.ml = m.ml
 len : ∀ j, s.m.len j = m.len j
 wd : ∀ j, j < m.ml → ∀ i, i < m.len j → B64 (s.m.wd j i)

structure Good (p : Prg) (m : Mem) (l : KV) : Prop where
 ok : p.Ok 200 8
 n : ∀ i, i < p.cl → B64 (p.ins i).n
 fits : J1m p.rl p.log m.ml m.len
 known : Known p l
 check : (J0c p l).1 = 0

section
variable {p : Prg} {m : Mem} {l : KV} {s : St}

theorem Good.fault (g : Good p m l) {k : KS} (ha : s.at_ < p.cl) (e : l s.at_ = some k) : outK p s.at_ = false ∧ J19 p (p.ins s.at_) k = false ∧ J0f p (p.ins s.at_) k = false := by
 have h := Jat g.check ha e
 unfold J0r at h
 cases h1 : (outK p s.at_ || J19 p (p.ins s.at_) k)
 ·cases h2 : J0f p (p.ins s.at_) k
  ·have := Bool.or_eq_false_iff.1 h1; exact ⟨this.1, this.2, rfl⟩
  ·rw [h1, h2] at h; simp at h
 ·rw [h1] at h; simp at h
theorem Good.next (g : Good p m l) {k : KS} (ha : s.at_ < p.cl) (e : l s.at_ = some k) (h7 : ¬ (p.ins s.at_).op = 7) (h9 : ¬ (p.ins s.at_).op = 9) : s.at_ + 1 < p.cl := by
 have h := (g.fault ha e).1
 unfold outK at h
 simp [h7, h9] at h
 omega

theorem Good.word (g : Good p m l) (h : Sound p m l s) {k : KS} (e : l s.at_ = some k) (hk : HasS k s.r) (hop : (p.ins s.at_).op = 3 ∨ (p.ins s.at_).op = 4 ∨ (p.ins s.at_).op = 5 ∨ (p.ins s.at_).op = 6) :
  ¬ (idxI s.r (p.ins s.at_) < 0 ∨ (s.m.len (p.ins s.at_).c.toNat : Int) ≤ idxI s.r (p.ins s.at_)) ∧ (p.ins s.at_).c.toNat < p.rl ∧ (p.ins s.at_).c.toNat < m.ml := by
 have hi := g.ok.2.2.2 s.at_ h.at_
 have hn := g.n s.at_ h.at_
 have hf := g.fault h.at_ e
 have hg := J1a hi
 rw [h.len]
 generalize p.ins s.at_ = i at *
 have hc : Rgn p.rl i.c := by
  unfold InsOk at hi
  rcases hop with q | q | q | q <;> simp [q] at hi
  ·exact hi.2.2
  ·exact hi.2.2
  ·exact hi.2.2.1
  ·exact hi.2.2.1
 have hcr : i.c.toNat < p.rl := by unfold Rgn at hc; omega
 have hlen := g.fits.2.2 i.c.toNat hcr
 have hlog := g.fits.1.2 i.c.toNat hcr
 refine ⟨?_, hcr, by rw [g.fits.2.1]; exact hcr⟩
 rw [hlen]
 unfold J0h
 by_cases q : i.op = 5 ∨ i.op = 6
 ·have hw : Wrd p.log i.c i.n := by
   unfold InsOk at hi
   rcases q with q | q <;> simp [q] at hi
   ·exact hi.2.2.2
   ·exact hi.2.2.2
  unfold Wrd at hw
  unfold idxI
  rw [if_pos q]
  omega
 ·have h34 : i.op = 3 ∨ i.op = 4 := by omega
  have hb := hg.2.1 (by omega)
  have hbd := hf.2.1
  unfold J19 at hbd
  have hn0 : 0 ≤ i.n ∧ (Kn.index (k i.b.toNat) i.n).b ≤ p.log i.c.toNat := by
   rcases h34 with q3 | q3 <;> simp [q3] at hbd <;> omega
  unfold idxI
  rw [if_neg q]
  have hx := Kn.has_index (h.r i.b.toNat (by omega)) hn (hk _ hb)
  have hnm := Kn.norm_index (k i.b.toNat) i.n
  unfold Kn.has at hx
  have hs := J4p (by rw [Kn.bnd_norm hnm]; omega) hx
  rw [Kn.bnd_norm hnm] at hs
  have hp : 2 ^ (Kn.index (k i.b.toNat) i.n).b.toNat ≤ 2 ^ (p.log i.c.toNat).toNat := Nat.pow_le_pow_right (by decide) (by omega)
  have h1 := J2l (Kn.index (k i.b.toNat) i.n).b.toNat
  have h2 := J2l (p.log i.c.toNat).toNat
  omega

theorem Good.step (g : Good p m l) (h : Sound p m l s) : (∃ s' v, stepI p s = (s', some (1, v)) ∧ (p.ins s.at_).op = 9 ∧ s' = ⟨s.at_ + 1, s.r, s.m, s.seen ++ [⟨1, s.at_, 0⟩]⟩ ∧ v = s.r (p.ins s.at_).a.toNat) ∨ ∃ s', stepI p s = (s', none) ∧ Sound p m l s' := by
 obtain ⟨k, e, hk⟩ := h.kn
 have hi := g.ok.2.2.2 s.at_ h.at_
 have hn := g.n s.at_ h.at_
 have hl := g.known.closed.leads s.at_ k h.at_ e
 have hr8 : ∀ j, j < 8 → B64 (s.r j) := fun j hj => h.r j (by omega)
 by_cases h7 : (p.ins s.at_).op = 7
 ·refine .inr ⟨_, by unfold stepI; rw [if_pos h7], ?_⟩
  have hp : Plc p.cl (p.ins s.at_).n := by unfold InsOk at hi; simp [h7] at hi; exact hi.2.2.2
  unfold Plc at hp
  obtain ⟨u, eu, hu⟩ := hl ((p.ins s.at_).n.toNat, k) (by unfold J0d; rw [if_pos h7]; simp) (by dsimp only; omega)
  exact ⟨by dsimp only; omega, ⟨u, eu, hk.mono hu hr8⟩, h.r, h.ml, h.len, h.wd⟩
 by_cases h8 : (p.ins s.at_).op = 8
 ·refine .inr ⟨_, by unfold stepI; rw [if_neg h7, if_pos h8], ?_⟩
  have hp : Plc p.cl (p.ins s.at_).n := by unfold InsOk at hi; simp [h8] at hi; exact hi.2.2.2
  unfold Plc at hp
  have hx := g.next h.at_ e h7 (by omega)
  by_cases q : J15 (p.ins s.at_).c (s.r (p.ins s.at_).a.toNat) (s.r (p.ins s.at_).b.toNat) = true
  ·obtain ⟨u, eu, hu⟩ := hl ((p.ins s.at_).n.toNat, yesK (p.ins s.at_) k) (by unfold J0d; rw [if_neg h7, if_neg (by omega), if_pos h8]; simp) (by dsimp only; omega)
   rw [if_pos q]
   exact ⟨by dsimp only; omega, ⟨u, eu, (Jd8 hi h8 hr8 hk q).mono hu hr8⟩, h.r, h.ml, h.len, h.wd⟩
  ·obtain ⟨u, eu, hu⟩ := hl (s.at_ + 1, noK (p.ins s.at_) k) (by unfold J0d; rw [if_neg h7, if_neg (by omega), if_pos h8]; simp) hx
   rw [if_neg q]
   exact ⟨hx, ⟨u, eu, (Jhs hi h8 hr8 hk q).mono hu hr8⟩, h.r, h.ml, h.len, h.wd⟩
 by_cases h9 : (p.ins s.at_).op = 9
 ·exact .inl ⟨_, _, by unfold stepI; rw [if_neg h7, if_neg h8, if_pos h9], h9, rfl, rfl⟩
 have hx := g.next h.at_ e h7 h9
 obtain ⟨u, eu, hu⟩ := hl (s.at_ + 1, nextK p (p.ins s.at_) k) (by unfold J0d; rw [if_neg h7, if_neg h9, if_neg h8]; simp) hx
 by_cases hop : (p.ins s.at_).op = 3 ∨ (p.ins s.at_).op = 4 ∨ (p.ins s.at_).op = 5 ∨ (p.ins s.at_).op = 6
 ·obtain ⟨hw, hc1, hc2⟩ := g.word h e hk hop
  have hw' := hw
  rw [h.len] at hw'
  by_cases hld : (p.ins s.at_).op = 3 ∨ (p.ins s.at_).op = 5
  ·refine .inr ⟨_, J4v rfl hld hw, ?_⟩
   have hv : B64 (s.m.wd (p.ins s.at_).c.toNat (idxI s.r (p.ins s.at_)).toNat) := h.wd _ hc2 _ (by omega)
   refine ⟨hx, ⟨u, eu, HasS.mono hu (fun j hj => J3i h.r _ hv j (by omega)) ?_⟩, J3i h.r _ hv, h.ml, h.len, h.wd⟩
   have e2 : nextK p (p.ins s.at_) k = setK k (p.ins s.at_).a ⟨17, p.sec (p.ins s.at_).c.toNat⟩ := by unfold nextK; rw [if_neg (by omega), if_neg (by omega), if_neg (by omega), if_pos hld]
   rw [e2]
   exact hk.set _ (Jb2 _)
  ·refine .inr ⟨_, J86 rfl (by omega) hw, ?_⟩
   have e2 : nextK p (p.ins s.at_) k = k := by unfold nextK; rw [if_neg (by omega), if_neg (by omega), if_neg (by omega), if_neg hld, if_neg (by omega), if_pos (by omega)]
   rw [e2] at hu
   refine ⟨hx, ⟨u, eu, hk.mono hu hr8⟩, h.r, h.ml, h.len, fun j hj y hy => ?_⟩
   have ha := (J1a hi).1 (by omega)
   unfold setW
   dsimp only
   split
   ·exact h.r _ (by omega)
   ·exact h.wd j hj y hy
 ·refine .inr ⟨_, J39 rfl (by omega) (by omega) (by omega) (by omega) h7 h8 h9, ?_⟩
  have hb := Je8 hi h.r hn
  exact ⟨hx, ⟨u, eu, HasS.mono hu (fun j hj => hb j (by omega)) (Jfr hi hn (by omega) (by omega) (by omega) (by omega) h7 h8 h9 hr8 hk)⟩, hb, h.ml, h.len, h.wd⟩

theorem Good.begin_ (g : Good p m l) (hw : ∀ j, j < m.ml → ∀ i, i < m.len j → B64 (m.wd j i)) : Sound p m l ⟨0, fun _ => 0, m, []⟩ := by
 obtain ⟨s, e, hs⟩ := g.known.closed.first
 exact ⟨g.ok.2.1, ⟨s, e, fun j hj => J63 _⟩, fun _ _ => J1e, rfl, fun _ => rfl, hw⟩

end
end
section
open Go.RowKit
set_option linter.unusedSimpArgs false
set_option linter.unusedVariables false
set_option maxRecDepth 8000
def Told (p : Prg) (f : Int × Int) : Prop := (¬ p.Ok 200 8 ∧ f = (2, 0)) ∨ (p.Ok 200 8 ∧ ∃ l, Known p l ∧ f = J0c p l)
theorem Told.ok {p : Prg} {f : Int × Int} (h : Told p f) (h0 : f.1 = 0) : p.Ok 200 8 ∧ ∃ l, Known p l ∧ (J0c p l).1 = 0 := by
 rcases h with ⟨_, rfl⟩ | ⟨h1, l, h2, rfl⟩
 ·exact absurd h0 (by decide)
 ·exact ⟨h1, l, h2, h0⟩
theorem Told.one {p : Prg} {f g : Int × Int} (h : Told p f) (k : Told p g) : f = g := by
 rcases h with ⟨h1, rfl⟩ | ⟨h1, l, h2, rfl⟩
 ·rcases k with ⟨_, rfl⟩ | ⟨k1, _⟩
  ·rfl
  ·exact absurd k1 h1
 ·rcases k with ⟨k1, _⟩ | ⟨_, l', k2, rfl⟩
  ·exact absurd h1 k1
  ·exact Jct h1 h2 k2

theorem Jbs (p : Prg) (l : Loc) (w : World) (hp : PIn w p l) (hf : p.Fit) :
  Calls Try.prog 19 #[.agg #[.slice l.ra p.rl l.rc, .slice l.ca p.cl l.cc]] w fun e w' => ∃ f : Int × Int, Told p f ∧ e = .returned (.agg #[.int .i64 f.1, .int .i64 f.2]) ∧ More w w' := by
 by_cases hok : p.Ok 200 8
 ·refine (J6w p l w hp hok (fun i hi => (hf.ins i hi).2.2.2.2)).mono ?_
  rintro e w' ⟨l', h1, rfl, m⟩
  exact ⟨_, .inr ⟨hok, l', h1, rfl⟩, rfl, m⟩
 ·exact (Jbr p l w hp hok).mono (fun e w' ⟨h1, h2⟩ => ⟨(2, 0), .inl ⟨hok, rfl⟩, h1, h2⟩)
theorem Jg9 (p : Prg) (l : Loc) (w : World) (hp : PIn w p l) (hok : p.Ok 200 8) :
  Calls Try.prog 22 #[.agg #[.slice l.ra p.rl l.rc, .slice l.ca p.cl l.cc]] w fun e w' => e = .returned (.bool true) ∧ More w w' := by
 refine (Je0 p l _ hp).mono ?_
 rintro e w' ⟨r, rfl, hr, m⟩
 cases r with
 | true => exact ⟨rfl, m⟩
 | false => exact absurd (hr.2 hok) (by simp)
theorem J8i (p : Prg) (l : Loc) (m : Mem) (ml : MLoc) (w : World) (hp : PIn w p l) (hm : MRaw w m ml) (r : Bool) (hr : r = true ↔ J1m p.rl p.log m.ml m.len) :
  Calls Try.prog 12 #[.agg #[.slice l.ra p.rl l.rc, .slice l.ca p.cl l.cc], .slice ml.ma m.ml ml.mc] w fun e w' => e = .returned (.bool r) ∧ More w w' := by
 refine (Jgz l.ra p.rl l.rc l.ca p.cl l.cc ml.ma m.ml ml.mc l.rb l.ro ml.mb ml.mo p.log p.sec ml.A m.len ml.C w hp.hr hp.regs hm.hm hm.lists).mono ?_
 rintro e w' ⟨q, rfl, hq, mm⟩
 have : q = r := Bool.eq_iff_iff.2 (hq.trans hr.symm)
 rw [this]
 exact ⟨rfl, mm⟩
theorem J7p {p : Prg} {m : Mem} (hok : p.Ok 200 8) (h : J1m p.rl p.log m.ml m.len) : m.ml = p.rl ∧ m.ml ≤ 6 ∧ (∀ i, i < m.ml → (m.len i : Int) = J0h (p.log i)) ∧ ∀ i, i < m.ml → m.len i ≤ 64 := by
 have h1 : m.ml = p.rl := h.2.1
 refine ⟨h1, by rw [h1]; exact hok.1.1, fun i hi => h.2.2 i (by omega), fun i hi => ?_⟩
 have h2 := h.2.2 i (by omega)
 have h3 := hok.1.2 i (by omega)
 have h4 := J2j (k := (p.log i).toNat) (by omega)
 unfold J0h at h2
 omega
theorem Jht : (Try.prog.info? 65).map (fun i => (i.zero, i.size, i.bytes)) = some (some (.agg #[.int .i64 0, .bool false]), 2, 16) := by kernel_rfl

abbrev st (b : Bool) (g c : Nat) : Value := .agg #[.bool b, .slice (some ⟨g, 0, none⟩) 8 c]

set_option maxHeartbeats 1000000 in
theorem J0o (b : Bool) (g c : Nat) (s : KS) (w : World) (h : KRow w g s) :
  Calls Try.prog 48 #[st b g c] w fun e w' => ∃ g' c', e = .returned (st b g' c') ∧ w.heap.size ≤ g' ∧ KRow w' g' s ∧ More w w' := by
 obtain ⟨i0, hi, hz0, hz1, hz2⟩ := info_parts Jht
 have Hi : Hid (Try.prog.info? 65 = some i0 ∧ i0.zero = some (.agg #[.int .i64 0, .bool false]) ∧ i0.size = 2 ∧ i0.bytes = 16) := ⟨hi, hz0, hz1, hz2⟩
 have H : Hid (KRow w g s) := h
 clear h hi hz0 hz1 hz2
 unfold st
 obtain ⟨W, HW⟩ : ∃ W : World, Hid (W = (w.alloc (.cells #[.bool b, .slice (some ⟨g, 0, none⟩) 8 c] 57)).alloc (.cells #[.bool false, .slice none 0 0] 57)) := ⟨_, rfl⟩
 have HmW : Hid (More w W ∧ W.heap.size = w.heap.size + 2) := HW.out ▸ ⟨((More.refl _).alloc _ _).alloc _ _, by simp⟩
 have a0 : W.cell? ⟨w.heap.size, 0, none⟩ = some (.bool b) := by rw [HW.out]; go_simp
 have a1 : W.cell? ⟨w.heap.size, 1, none⟩ = some (.slice (some ⟨g, 0, none⟩) 8 c) := by rw [HW.out]; go_simp
 obtain ⟨S, HS⟩ : ∃ S : World → Prop, Hid (∀ w', S w' ↔ (w'.cell? ⟨w.heap.size, 0, none⟩ = some (.bool b) ∧ w'.cell? ⟨w.heap.size, 1, none⟩ = some (.slice (some ⟨g, 0, none⟩) 8 c))) := ⟨_, fun _ => Iff.rfl⟩
 have HS0 : S W.drew := (HS.out _).2 ⟨a0, a1⟩
 have hne : Nonempty { w' // S w' } := ⟨⟨_, HS0⟩⟩
 have k0 : ∀ i : { w' // S w' }, i.val.cell? ⟨w.heap.size, 0, none⟩ = some (.bool b) := fun i => ((HS.out _).1 i.property).1
 have k1 : ∀ i : { w' // S w' }, i.val.cell? ⟨w.heap.size, 1, none⟩ = some (.slice (some ⟨g, 0, none⟩) 8 c) := fun i => ((HS.out _).1 i.property).2
 have Hown : Hid ((W.drew.alloc (.cells #[] 65)).ownsRow W.heap.size 65 2 (.slice (some ⟨W.heap.size, 0, none⟩) 0 0) 0 []) := World.ownsRow_made W.drew #[] 0 (Nat.le_refl _) (by unfold maxLen; omega) rfl
 have Hnews : Hid (∀ j u, (flatK s 8)[j]? = some u → (W.drew.alloc (.cells #[] 65)).cell? ((⟨g, 0, none⟩ : Addr).add j) = some u) := Jfk (H.out.more (HmW.out.1.drew.alloc _ _))
 go_enter Try.func48, Try.ntmps48
 go_wp2_with (fail)
 rw [← HW.out]
 refine J01 (S := S) [(0, true), (1, true), (3, true), (4, true), (2, false), (5, false), (6, true), (7, false)] (by kernel_rfl) (by kernel_rfl) (by kernel_rfl) HS0 ?_
 iterate 4 (refine J00 rfl (by kernel_rfl) (fun K hK => ?_); go_simp; refine hK _ _ ?_; clear hK K)
 refine J02 rfl (by kernel_rfl) (fun K hK => ?_); go_simp
 refine hK _ _ ((HS.out _).2 ⟨((More.refl _).drew.alloc _ _).cell a0, ((More.refl _).drew.alloc _ _).cell a1⟩) ?_; clear hK K
 refine J02 rfl (by kernel_rfl) (fun K hK => ?_)
 refine wp_append_lies _ (.tmp 5) (.tmp 7) 55 rfl W.heap.size 65 i0 (.agg #[.int .i64 0, .bool false]) 2 16 Try.underlying55 Hi.out.1 Hi.out.2.1 Hi.out.2.2.1 Hi.out.2.2.2 rfl (by decide) (.slice (some ⟨W.heap.size, 0, none⟩) 0 0) 0 [] rfl Hown.out ⟨g, 0, none⟩ 8 c (flatK s 8) rfl (by rw [J0y]) Hnews.out (J4o s 8) (by decide) (by unfold maxLen; omega) (by omega) (by simp) (W.heap.size + 1) (by simp) ?_
 intro g1 cap w2 own2 gr2 hat2 hlt2
 simp only [Value.ownBlock] at gr2 hat2
 simp only [Nat.zero_add, List.nil_append] at own2
 have hs2 := HmW.out.2
 have Hg1 : Hid (w.heap.size + 1 < g1) := by
  show _ < _
  rcases hat2 with q | q
  ·have := Option.some.inj q; omega
  ·omega
 have Hm2 : Hid (More w w2) := ((HmW.out.1.alloc _ _).drew).grownBy gr2 (fun k hk => by have := Option.some.inj hk; omega)
 have c0 : w2.cell? ⟨w.heap.size, 0, none⟩ = some (.bool b) := gr2.cell (((More.refl _).drew.alloc _ _).cell a0) (by simp; omega)
 have c1 : w2.cell? ⟨w.heap.size, 1, none⟩ = some (.slice (some ⟨g, 0, none⟩) 8 c) := gr2.cell (((More.refl _).drew.alloc _ _).cell a1) (by simp; omega)
 have hblk : w2.heap[w.heap.size + 1]? = some (.cells #[.bool false, .slice none 0 0] 57 (0, 0)) := by
  have e1 := gr2.block (w.heap.size + 1) (by simp; omega) (by simp; omega)
  rw [e1]
  have e2 := ((More.refl W).alloc #[] 65).drew.block (w.heap.size + 1) (by omega)
  rw [e2, HW.out]
  have := heap_alloc_last (w.alloc (.cells #[.bool b, .slice (some ⟨g, 0, none⟩) 8 c] 57)) (.cells #[.bool false, .slice none 0 0] 57)
  simpa using this
 have d0 : w2.cell? ⟨w.heap.size + 1, 0, none⟩ = some (.bool false) := by rw [cell_of_row _ _ _ _ _ _ hblk]; rfl
 have d1 : w2.cell? ⟨w.heap.size + 1, 1, none⟩ = some (.slice none 0 0) := by rw [cell_of_row _ _ _ _ _ _ hblk]; rfl
 have f0 : w2.frozen? ⟨w.heap.size + 1, 0, none⟩ = false := frozen_of_row _ _ _ _ _ hblk
 have f1 : w2.frozen? ⟨w.heap.size + 1, 1, none⟩ = false := frozen_of_row _ _ _ _ _ hblk
 have HR : Hid (KRow w2 g1 s) := Ja0 own2
 clear own2 gr2 hat2 hlt2 hblk hs2 a0 a1
 go_simp
 refine hK _ _ ((HS.out _).2 ⟨c0, c1⟩) ?_; clear hK K
 refine J00 rfl (by kernel_rfl) (fun K hK => ?_); go_simp; refine hK _ _ ?_; clear hK K
 refine J02 rfl (by kernel_rfl) (fun K hK => ?_); go_simp
 refine hK _ _ ((HS.out _).2 ⟨by go_simp, by go_simp⟩) ?_; clear hK K
 refine J04 ?_
 clear k0 k1 hne HS0
 go_wp2
 refine bodyPost_ret (by simp [results, Try.results48, go_sem, *]) rfl ⟨g1, cap, rfl, by have := Hg1.out; omega, ?_, ?_⟩
 ·exact (HR.out.other (by have := Hg1.out; omega) _ _).other (by have := Hg1.out; omega) _ _
 ·exact (Hm2.out.setCell (by simp) _).setCell (by simp) _
end
section
open Go.RowKit
set_option linter.unusedVariables false
theorem J20 (a : Int) (sa : Bool) (w : World) :
  Calls Try.prog 65 #[kn a sa] w fun e w' => e = .returned (kn (bnd a) sa) ∧ w' = (w.alloc (.cells #[.int .i64 (bnd a), .bool sa] 65)).alloc (.cells #[.int .i64 (bnd a), .bool sa] 65) := by
 unfold kn
 by_cases h : a < 0
 ·rw [J3e (.inl h)]
  go_enter Try.func65, Try.ntmps65
  go_wp2
  exact bodyPost_ret (by simp [results, Try.results65, go_sem]) rfl ⟨rfl, rfl⟩
 by_cases h2 : 16 < a
 ·rw [J3e (.inr h2)]
  go_enter Try.func65, Try.ntmps65
  go_wp2
  exact bodyPost_ret (by simp [results, Try.results65, go_sem]) rfl ⟨rfl, rfl⟩
 ·rw [J5v (by omega) (by omega)]
  go_enter Try.func65, Try.ntmps65
  go_wp2
  exact bodyPost_ret (by simp [results, Try.results65, go_sem]) rfl ⟨rfl, rfl⟩

theorem J4a (n : Int) (h0 : 0 ≤ n) (w : World) :
  Calls Try.prog 66 #[.int .i64 n] w fun e w' => e = .returned (.int .i64 (bnd n)) ∧ w' = w := by
 by_cases h2 : 16 < n
 ·rw [J3e (.inr h2)]
  go_enter Try.func66, Try.ntmps66
  go_wp2
  go_ret
  exact ⟨rfl, rfl⟩
 ·rw [J5v (by omega) (by omega)]
  go_enter Try.func66, Try.ntmps66
  go_wp2
  go_ret
  exact ⟨rfl, rfl⟩

theorem Ja6 (b : Nat) (hb : b ≤ 16) (w : World) :
  Calls Try.prog 82 #[.int .i64 b] w fun e w' => e = .returned (.int .i64 (2 ^ b)) ∧ w' = w := by
 obtain ⟨R, hR⟩ : ∃ R : Int, (2 ^ b : Int) = R := ⟨_, rfl⟩
 rw [hR]
 have HR : Hid ((2 ^ b : Int) = R) := hR
 clear hR
 go_enter Try.func82, Try.ntmps82
 go_wp2
 go_loopg [3, 4] b (fun g nv iv wr => ∃ (k : Nat) (p : Int), k + g = b ∧ Hid (p = ((2 ^ k : Nat) : Int)) ∧ 0 ≤ p ∧ p ≤ 65536 ∧ nv = .int .i64 p ∧ iv = .int .i64 k ∧ wr = w)
 case atStart => exact ⟨0, 1, by omega, rfl, by omega, by omega, rfl, rfl, rfl⟩
 case round =>
  obtain ⟨k, p, hkg, hp, p0, p1, rfl, rfl, rfl⟩ := hrel
  cases gk with
  | zero =>
   obtain rfl : k = b := by omega
   go_wp2
   go_ret
   exact ⟨by rw [← HR.out, hp.out, J2l]; rfl, rfl⟩
  | succ g =>
   have hk : (k : Int) < b := by omega
   have hpn : Hid (p + p = ((2 ^ (k + 1) : Nat) : Int)) := by show p + p = _; rw [hp.out, Nat.pow_succ]; omega
   have hpb : p ≤ 32768 := by
    rw [hp.out]
    have : 2 ^ k ≤ 2 ^ 15 := Nat.pow_le_pow_right (by omega) (by omega)
    omega
   go_wp2
   go_roundg g
   case measure => omega
   case rel => exact ⟨k + 1, p + p, by omega, hpn, by omega, by omega, rfl, by first | rfl | simp, rfl⟩

theorem Jh3 (a n : Int) (sa : Bool) (h : bnd a = 17) (w : World) :
  Calls Try.prog 64 #[kn a sa, .int .i64 n] w fun e w' => e = .returned (.bool true) ∧ More w w' := by
 have c := fun w => J20 a sa w
 rw [h] at c
 unfold kn at *
 go_enter Try.func64, Try.ntmps64
 go_wp2_with (fail)
 refine (c _).mono ?_
 rintro e w1 ⟨rfl, rfl⟩
 go_wp2
 go_ret
 exact ⟨rfl, (((More.refl _).alloc _ _).alloc _ _).alloc _ _⟩

theorem Jeb (a n x p : Int) (sa : Bool) (hx : bnd a = x) (hn : (x == 17) = false)
  (cp : ∀ w : World, Calls Try.prog 82 #[.int .i64 x] w fun e w' => e = .returned (.int .i64 p) ∧ w' = w) (r : Bool) (hr : (decide (0 ≤ n) && decide (n < p)) = r) (w : World) :
  Calls Try.prog 64 #[kn a sa, .int .i64 n] w fun e w' => e = .returned (.bool r) ∧ More w w' := by
 have c := fun w => J20 a sa w
 rw [hx] at c
 clear hx
 unfold kn at *
 by_cases h0 : 0 ≤ n
 ·have e0 : decide (0 ≤ n) = true := by simp [h0]
  rw [e0, Bool.true_and] at hr
  go_enter Try.func64, Try.ntmps64
  go_wp2_with (fail)
  refine (c _).mono ?_
  rintro e w1 ⟨rfl, rfl⟩
  go_wp2_with (fail)
  refine (cp _).mono ?_
  rintro e w1 ⟨rfl, rfl⟩
  go_wp2
  go_ret
  exact ⟨rfl, (((More.refl _).alloc _ _).alloc _ _).alloc _ _⟩
 ·have e0 : decide (0 ≤ n) = false := by simp [h0]
  rw [e0, Bool.false_and] at hr
  subst hr
  go_enter Try.func64, Try.ntmps64
  go_wp2_with (fail)
  refine (c _).mono ?_
  rintro e w1 ⟨rfl, rfl⟩
  go_wp2
  go_ret
  exact ⟨rfl, (((More.refl _).alloc _ _).alloc _ _).alloc _ _⟩

theorem Jcf (a n : Int) (sa : Bool) (w : World) :
  Calls Try.prog 64 #[kn a sa, .int .i64 n] w fun e w' => e = .returned (.bool (hasI a n)) ∧ More w w' := by
 by_cases h : bnd a = 17
 ·rw [J7t h]; exact Jh3 a n sa h w
 ·have hr := J0j a
  have e : hasI a n = (decide (0 ≤ n) && decide (n < 2 ^ (bnd a).toNat)) := by
   unfold hasI; rw [Bool.eq_iff_iff]; simp [h]
  rw [e]
  have hb : (((bnd a).toNat : Nat) : Int) = bnd a := by omega
  exact Jeb a n (bnd a) _ sa rfl (by simp [h]) (fun w => hb ▸ Ja6 (bnd a).toNat (by omega) w) _ rfl w

theorem J6o (n : Int) (n0 : -9223372036854775808 ≤ n) (n1 : n ≤ 9223372036854775807) (w : World) :
  Calls Try.prog 50 #[.int .i64 n] w fun e w' => e = .returned (kn (fitI n) false) ∧ More w w' := by
 obtain ⟨f, hf⟩ : ∃ f, fitI n = f := ⟨_, rfl⟩
 have hfr := J4n n
 have c : ∀ k : Nat, k ≤ 16 → ∀ w : World, Calls Try.prog 64 #[.agg #[.int .i64 (k : Int), .bool false], .int .i64 n] w fun e w' => e = .returned (.bool (decide (f ≤ (k : Int)))) ∧ More w w' := by
  intro k hk w
  have h := Jcf (k : Int) n false w
  rw [J7u n0 n1, J5v (by omega) (by omega), hf] at h
  exact h
 rw [hf] at hfr ⊢
 have C : Hid (∀ k : Nat, k ≤ 16 → ∀ w : World, Calls Try.prog 64 #[.agg #[.int .i64 (k : Int), .bool false], .int .i64 n] w fun e w' => e = .returned (.bool (decide (f ≤ (k : Int)))) ∧ More w w') := c
 clear hf c n0 n1
 unfold kn
 go_enter Try.func50, Try.ntmps50
 go_wp2
 have hz : Hid (More w (w.alloc (.cells #[.int .i64 0, .bool false] 65)) ∧ ∃ wz : World, More (w.alloc (.cells #[.int .i64 0, .bool false] 65)) wz) := ⟨(More.refl _).alloc _ _, _, More.refl _⟩
 go_loopg [3] 17 (fun g iv wr => ∃ k : Nat, k + g = 17 ∧ (k : Int) ≤ f ∧ iv = .int .i64 k ∧ Hid (More (w.alloc (.cells #[.int .i64 0, .bool false] 65)) wr))
 case atStart => exact ⟨0, by omega, by omega, rfl, More.refl _⟩
 case round =>
  obtain ⟨k, hkg, hkf, rfl, Hm⟩ := hrel
  have kf : ∀ {w' : World}, More wr w' → ∀ j, w'.frozen? ⟨w.heap.size, j, none⟩ = false := fun h j => by
   have hb := (Hm.out.trans h).block w.heap.size (by simp)
   rw [heap_alloc_last] at hb
   exact frozen_of_row _ _ _ _ _ hb
  have k0 : ∀ {w' : World}, More wr w' → w'.cell? ⟨w.heap.size, 0, none⟩ = some (.int .i64 0) := fun h => (Hm.out.trans h).cell (by go_simp)
  have k1 : ∀ {w' : World}, More wr w' → w'.cell? ⟨w.heap.size, 1, none⟩ = some (.bool false) := fun h => (Hm.out.trans h).cell (by go_simp)
  have hm : Hid (More w wr) := ((More.refl _).alloc _ _).trans Hm.out
  cases gk with
  | zero =>
   obtain rfl : k = 17 := by omega
   obtain rfl : f = 17 := by omega
   have q0 := k0 (More.refl _)
   have q1 := k1 (More.refl _)
   have q2 := kf (More.refl _) 0
   have q3 := kf (More.refl _) 1
   clear k0 k1 kf
   go_wp2
   exact bodyPost_ret (by simp [results, Try.results50, go_sem, *]) rfl ⟨rfl, (hm.out.setCell (by simp) _).setCell (by simp) _⟩
  | succ g =>
   have hk17 : (k : Int) < 17 := by omega
   go_wp2_with (fail)
   refine (C.out k (by omega) _).mono ?_
   rintro e w1 ⟨rfl, m1⟩
   have q0 := k0 m1
   have q1 := k1 m1
   have q2 := kf m1 0
   have q3 := kf m1 1
   have Hm1 : Hid (More wr w1) := m1
   clear k0 k1 kf m1
   by_cases hfk : f ≤ (k : Int)
   ·obtain rfl : f = (k : Int) := by omega
    go_wp2
    exact bodyPost_ret (by simp [results, Try.results50, go_sem, *]) rfl ⟨rfl, ((hm.out.trans Hm1.out).setCell (by simp) _).setCell (by simp) _⟩
   ·go_wp2
    go_roundg g
    case measure => omega
    case rel => exact ⟨k + 1, by omega, by omega, by first | rfl | simp, Hm.out.trans Hm1.out⟩

theorem Jh5 (a b x y r : Int) (sa sb : Bool) (c1 : (∀ w : World, Calls Try.prog 65 #[kn a sa] w fun e w' => e = .returned (kn x sa) ∧ w' = (w.alloc (.cells #[.int .i64 x, .bool sa] 65)).alloc (.cells #[.int .i64 x, .bool sa] 65))) (c2 : (∀ w : World, Calls Try.prog 65 #[kn b sb] w fun e w' => e = .returned (kn y sb) ∧ w' = (w.alloc (.cells #[.int .i64 y, .bool sb] 65)).alloc (.cells #[.int .i64 y, .bool sb] 65))) (lt : Bool) (hlt : decide (y < x) = lt) (hr : r = bif lt then y else x) (w : World) :
  Calls Try.prog 51 #[kn a sa, kn b sb] w fun e w' => e = .returned (kn r sa) ∧ More w w' := by
 unfold kn at *
 cases lt
 all_goals
  simp only [cond_true, cond_false] at hr
  subst hr
  go_enter Try.func51, Try.ntmps51
  go_wp2_with (fail)
  refine (c1 _).mono ?_
  rintro e w1 ⟨rfl, rfl⟩
  go_wp2_with (fail)
  refine (c2 _).mono ?_
  rintro e w1 ⟨rfl, rfl⟩
  go_wp2
  exact bodyPost_ret (by simp [results, Try.results51, go_sem]) rfl ⟨rfl, ((((((((More.refl _).alloc _ _).alloc _ _).alloc _ _).alloc _ _).alloc _ _).alloc _ _).alloc _ _)⟩

theorem J6n (a b : Int) (sa sb : Bool) (w : World) :
  Calls Try.prog 51 #[kn a sa, kn b sb] w fun e w' => e = .returned (kn (min (bnd a) (bnd b)) sa) ∧ More w w' :=
 Jh5 a b _ _ _ sa sb (J20 a sa) (J20 b sb) _ rfl (by by_cases h : bnd b < bnd a <;> simp [h] <;> omega) w

theorem Jh4 (a b x y r : Int) (sa sb : Bool) (c1 : (∀ w : World, Calls Try.prog 65 #[kn a sa] w fun e w' => e = .returned (kn x sa) ∧ w' = (w.alloc (.cells #[.int .i64 x, .bool sa] 65)).alloc (.cells #[.int .i64 x, .bool sa] 65))) (c2 : (∀ w : World, Calls Try.prog 65 #[kn b sb] w fun e w' => e = .returned (kn y sb) ∧ w' = (w.alloc (.cells #[.int .i64 y, .bool sb] 65)).alloc (.cells #[.int .i64 y, .bool sb] 65))) (lt : Bool) (hlt : decide (x < y) = lt) (hr : r = bif lt then y else x) (w : World) :
  Calls Try.prog 63 #[kn a sa, kn b sb] w fun e w' => e = .returned (kn r (sa || sb)) ∧ More w w' := by
 unfold kn at *
 cases lt <;> cases sa
 all_goals
  simp only [cond_true, cond_false] at hr
  subst hr
  go_enter Try.func63, Try.ntmps63
  go_wp2_with (fail)
  refine (c1 _).mono ?_
  rintro e w1 ⟨rfl, rfl⟩
  go_wp2_with (fail)
  refine (c2 _).mono ?_
  rintro e w1 ⟨rfl, rfl⟩
  go_wp2
  exact bodyPost_ret (by simp [results, Try.results63, go_sem]) rfl ⟨rfl, ((((((((More.refl _).alloc _ _).alloc _ _).alloc _ _).alloc _ _).alloc _ _).alloc _ _).alloc _ _)⟩

theorem Jae (a b : Int) (sa sb : Bool) (w : World) :
  Calls Try.prog 63 #[kn a sa, kn b sb] w fun e w' => e = .returned (kn (max (bnd a) (bnd b)) (sa || sb)) ∧ More w w' :=
 Jh4 a b _ _ _ sa sb (J20 a sa) (J20 b sb) _ rfl (by by_cases h : bnd a < bnd b <;> simp [h] <;> omega) w
theorem Jkh (a b x y g l : Int) (sa sb : Bool) (c1 : (∀ w : World, Calls Try.prog 65 #[kn a sa] w fun e w' => e = .returned (kn x sa) ∧ w' = (w.alloc (.cells #[.int .i64 x, .bool sa] 65)).alloc (.cells #[.int .i64 x, .bool sa] 65))) (c2 : (∀ w : World, Calls Try.prog 65 #[kn b sb] w fun e w' => e = .returned (kn y sb) ∧ w' = (w.alloc (.cells #[.int .i64 y, .bool sb] 65)).alloc (.cells #[.int .i64 y, .bool sb] 65))) (lt : Bool) (hlt : decide (x < y) = lt) (hg : g = bif lt then y else x) (hl : l = bif lt then x else y) (g0 : 0 ≤ g) (g1 : g ≤ 17) (l0 : 0 ≤ l) (l1 : l ≤ 17) (u : Int) (cu : ∀ w : World, Calls Try.prog 66 #[.int .i64 (g + 1)] w fun e w' => e = .returned (.int .i64 u) ∧ w' = w) (hz : (l == 0) = true) (w : World) :
  Calls Try.prog 52 #[.int .i64 1, kn a sa, kn b sb] w fun e w' => e = .returned (kn (g) (sa || sb)) ∧ More w w' := by
 unfold kn at *
 cases lt <;> cases sa
 all_goals
  simp only [cond_true, cond_false] at hg hl
  subst hg hl
  go_enter Try.func52, Try.ntmps52
  go_wp2_with (fail)
  refine (c1 _).mono ?_
  rintro e w1 ⟨rfl, rfl⟩
  go_wp2_with (fail)
  refine (c2 _).mono ?_
  rintro e w1 ⟨rfl, rfl⟩
  go_wp2_with (fail)
  refine (cu _).mono ?_
  rintro e w1 ⟨rfl, rfl⟩
  go_wp2
  exact bodyPost_ret (by simp [results, Try.results52, go_sem]) rfl ⟨rfl, (((((((((More.refl _).alloc _ _).alloc _ _).alloc _ _).alloc _ _).alloc _ _).alloc _ _).alloc _ _).alloc _ _)⟩

theorem rop_1 (a b x y g l : Int) (sa sb : Bool) (c1 : (∀ w : World, Calls Try.prog 65 #[kn a sa] w fun e w' => e = .returned (kn x sa) ∧ w' = (w.alloc (.cells #[.int .i64 x, .bool sa] 65)).alloc (.cells #[.int .i64 x, .bool sa] 65))) (c2 : (∀ w : World, Calls Try.prog 65 #[kn b sb] w fun e w' => e = .returned (kn y sb) ∧ w' = (w.alloc (.cells #[.int .i64 y, .bool sb] 65)).alloc (.cells #[.int .i64 y, .bool sb] 65))) (lt : Bool) (hlt : decide (x < y) = lt) (hg : g = bif lt then y else x) (hl : l = bif lt then x else y) (g0 : 0 ≤ g) (g1 : g ≤ 17) (l0 : 0 ≤ l) (l1 : l ≤ 17) (u : Int) (cu : ∀ w : World, Calls Try.prog 66 #[.int .i64 (g + 1)] w fun e w' => e = .returned (.int .i64 u) ∧ w' = w) (hz : (l == 0) = false) (w : World) :
  Calls Try.prog 52 #[.int .i64 1, kn a sa, kn b sb] w fun e w' => e = .returned (kn (u) (sa || sb)) ∧ More w w' := by
 unfold kn at *
 cases lt <;> cases sa
 all_goals
  simp only [cond_true, cond_false] at hg hl
  subst hg hl
  go_enter Try.func52, Try.ntmps52
  go_wp2_with (fail)
  refine (c1 _).mono ?_
  rintro e w1 ⟨rfl, rfl⟩
  go_wp2_with (fail)
  refine (c2 _).mono ?_
  rintro e w1 ⟨rfl, rfl⟩
  go_wp2_with (fail)
  refine (cu _).mono ?_
  rintro e w1 ⟨rfl, rfl⟩
  go_wp2
  exact bodyPost_ret (by simp [results, Try.results52, go_sem]) rfl ⟨rfl, (((((((((More.refl _).alloc _ _).alloc _ _).alloc _ _).alloc _ _).alloc _ _).alloc _ _).alloc _ _).alloc _ _)⟩

theorem Jki (a b x y g l : Int) (sa sb : Bool) (c1 : (∀ w : World, Calls Try.prog 65 #[kn a sa] w fun e w' => e = .returned (kn x sa) ∧ w' = (w.alloc (.cells #[.int .i64 x, .bool sa] 65)).alloc (.cells #[.int .i64 x, .bool sa] 65))) (c2 : (∀ w : World, Calls Try.prog 65 #[kn b sb] w fun e w' => e = .returned (kn y sb) ∧ w' = (w.alloc (.cells #[.int .i64 y, .bool sb] 65)).alloc (.cells #[.int .i64 y, .bool sb] 65))) (lt : Bool) (hlt : decide (x < y) = lt) (hg : g = bif lt then y else x) (hl : l = bif lt then x else y) (g0 : 0 ≤ g) (g1 : g ≤ 17) (l0 : 0 ≤ l) (l1 : l ≤ 17) (u : Int) (cu : ∀ w : World, Calls Try.prog 66 #[.int .i64 (g + l)] w fun e w' => e = .returned (.int .i64 u) ∧ w' = w) (hz : (l == 0) = true) (w : World) :
  Calls Try.prog 52 #[.int .i64 3, kn a sa, kn b sb] w fun e w' => e = .returned (kn (0) (sa || sb)) ∧ More w w' := by
 unfold kn at *
 cases lt <;> cases sa
 all_goals
  simp only [cond_true, cond_false] at hg hl
  subst hg hl
  go_enter Try.func52, Try.ntmps52
  go_wp2_with (fail)
  refine (c1 _).mono ?_
  rintro e w1 ⟨rfl, rfl⟩
  go_wp2_with (fail)
  refine (c2 _).mono ?_
  rintro e w1 ⟨rfl, rfl⟩
  go_wp2_with (fail)
  refine (cu _).mono ?_
  rintro e w1 ⟨rfl, rfl⟩
  go_wp2
  exact bodyPost_ret (by simp [results, Try.results52, go_sem]) rfl ⟨rfl, (((((((((More.refl _).alloc _ _).alloc _ _).alloc _ _).alloc _ _).alloc _ _).alloc _ _).alloc _ _).alloc _ _)⟩

theorem rop_3 (a b x y g l : Int) (sa sb : Bool) (c1 : (∀ w : World, Calls Try.prog 65 #[kn a sa] w fun e w' => e = .returned (kn x sa) ∧ w' = (w.alloc (.cells #[.int .i64 x, .bool sa] 65)).alloc (.cells #[.int .i64 x, .bool sa] 65))) (c2 : (∀ w : World, Calls Try.prog 65 #[kn b sb] w fun e w' => e = .returned (kn y sb) ∧ w' = (w.alloc (.cells #[.int .i64 y, .bool sb] 65)).alloc (.cells #[.int .i64 y, .bool sb] 65))) (lt : Bool) (hlt : decide (x < y) = lt) (hg : g = bif lt then y else x) (hl : l = bif lt then x else y) (g0 : 0 ≤ g) (g1 : g ≤ 17) (l0 : 0 ≤ l) (l1 : l ≤ 17) (u : Int) (cu : ∀ w : World, Calls Try.prog 66 #[.int .i64 (g + l)] w fun e w' => e = .returned (.int .i64 u) ∧ w' = w) (hz : (l == 0) = false) (w : World) :
  Calls Try.prog 52 #[.int .i64 3, kn a sa, kn b sb] w fun e w' => e = .returned (kn (u) (sa || sb)) ∧ More w w' := by
 unfold kn at *
 cases lt <;> cases sa
 all_goals
  simp only [cond_true, cond_false] at hg hl
  subst hg hl
  go_enter Try.func52, Try.ntmps52
  go_wp2_with (fail)
  refine (c1 _).mono ?_
  rintro e w1 ⟨rfl, rfl⟩
  go_wp2_with (fail)
  refine (c2 _).mono ?_
  rintro e w1 ⟨rfl, rfl⟩
  go_wp2_with (fail)
  refine (cu _).mono ?_
  rintro e w1 ⟨rfl, rfl⟩
  go_wp2
  exact bodyPost_ret (by simp [results, Try.results52, go_sem]) rfl ⟨rfl, (((((((((More.refl _).alloc _ _).alloc _ _).alloc _ _).alloc _ _).alloc _ _).alloc _ _).alloc _ _).alloc _ _)⟩
theorem rop_4 (a b x y g l : Int) (sa sb : Bool) (c1 : (∀ w : World, Calls Try.prog 65 #[kn a sa] w fun e w' => e = .returned (kn x sa) ∧ w' = (w.alloc (.cells #[.int .i64 x, .bool sa] 65)).alloc (.cells #[.int .i64 x, .bool sa] 65))) (c2 : (∀ w : World, Calls Try.prog 65 #[kn b sb] w fun e w' => e = .returned (kn y sb) ∧ w' = (w.alloc (.cells #[.int .i64 y, .bool sb] 65)).alloc (.cells #[.int .i64 y, .bool sb] 65))) (lt : Bool) (hlt : decide (x < y) = lt) (hg : g = bif lt then y else x) (hl : l = bif lt then x else y) (w : World) :
  Calls Try.prog 52 #[.int .i64 4, kn a sa, kn b sb] w fun e w' => e = .returned (kn (l) (sa || sb)) ∧ More w w' := by
 unfold kn at *
 cases lt <;> cases sa
 all_goals
  simp only [cond_true, cond_false] at hg hl
  subst hg hl
  go_enter Try.func52, Try.ntmps52
  go_wp2_with (fail)
  refine (c1 _).mono ?_
  rintro e w1 ⟨rfl, rfl⟩
  go_wp2_with (fail)
  refine (c2 _).mono ?_
  rintro e w1 ⟨rfl, rfl⟩
  go_wp2
  exact bodyPost_ret (by simp [results, Try.results52, go_sem]) rfl ⟨rfl, (((((((((More.refl _).alloc _ _).alloc _ _).alloc _ _).alloc _ _).alloc _ _).alloc _ _).alloc _ _).alloc _ _)⟩

theorem rop_5 (a b x y g l : Int) (sa sb : Bool) (c1 : (∀ w : World, Calls Try.prog 65 #[kn a sa] w fun e w' => e = .returned (kn x sa) ∧ w' = (w.alloc (.cells #[.int .i64 x, .bool sa] 65)).alloc (.cells #[.int .i64 x, .bool sa] 65))) (c2 : (∀ w : World, Calls Try.prog 65 #[kn b sb] w fun e w' => e = .returned (kn y sb) ∧ w' = (w.alloc (.cells #[.int .i64 y, .bool sb] 65)).alloc (.cells #[.int .i64 y, .bool sb] 65))) (lt : Bool) (hlt : decide (x < y) = lt) (hg : g = bif lt then y else x) (hl : l = bif lt then x else y) (w : World) :
  Calls Try.prog 52 #[.int .i64 5, kn a sa, kn b sb] w fun e w' => e = .returned (kn (g) (sa || sb)) ∧ More w w' := by
 unfold kn at *
 cases lt <;> cases sa
 all_goals
  simp only [cond_true, cond_false] at hg hl
  subst hg hl
  go_enter Try.func52, Try.ntmps52
  go_wp2_with (fail)
  refine (c1 _).mono ?_
  rintro e w1 ⟨rfl, rfl⟩
  go_wp2_with (fail)
  refine (c2 _).mono ?_
  rintro e w1 ⟨rfl, rfl⟩
  go_wp2
  exact bodyPost_ret (by simp [results, Try.results52, go_sem]) rfl ⟨rfl, (((((((((More.refl _).alloc _ _).alloc _ _).alloc _ _).alloc _ _).alloc _ _).alloc _ _).alloc _ _).alloc _ _)⟩

theorem rop_6 (a b x y g l : Int) (sa sb : Bool) (c1 : (∀ w : World, Calls Try.prog 65 #[kn a sa] w fun e w' => e = .returned (kn x sa) ∧ w' = (w.alloc (.cells #[.int .i64 x, .bool sa] 65)).alloc (.cells #[.int .i64 x, .bool sa] 65))) (c2 : (∀ w : World, Calls Try.prog 65 #[kn b sb] w fun e w' => e = .returned (kn y sb) ∧ w' = (w.alloc (.cells #[.int .i64 y, .bool sb] 65)).alloc (.cells #[.int .i64 y, .bool sb] 65))) (lt : Bool) (hlt : decide (x < y) = lt) (hg : g = bif lt then y else x) (hl : l = bif lt then x else y) (w : World) :
  Calls Try.prog 52 #[.int .i64 6, kn a sa, kn b sb] w fun e w' => e = .returned (kn (g) (sa || sb)) ∧ More w w' := by
 unfold kn at *
 cases lt <;> cases sa
 all_goals
  simp only [cond_true, cond_false] at hg hl
  subst hg hl
  go_enter Try.func52, Try.ntmps52
  go_wp2_with (fail)
  refine (c1 _).mono ?_
  rintro e w1 ⟨rfl, rfl⟩
  go_wp2_with (fail)
  refine (c2 _).mono ?_
  rintro e w1 ⟨rfl, rfl⟩
  go_wp2
  exact bodyPost_ret (by simp [results, Try.results52, go_sem]) rfl ⟨rfl, (((((((((More.refl _).alloc _ _).alloc _ _).alloc _ _).alloc _ _).alloc _ _).alloc _ _).alloc _ _).alloc _ _)⟩
theorem rop_8 (a b x y g l : Int) (sa sb : Bool) (c1 : (∀ w : World, Calls Try.prog 65 #[kn a sa] w fun e w' => e = .returned (kn x sa) ∧ w' = (w.alloc (.cells #[.int .i64 x, .bool sa] 65)).alloc (.cells #[.int .i64 x, .bool sa] 65))) (c2 : (∀ w : World, Calls Try.prog 65 #[kn b sb] w fun e w' => e = .returned (kn y sb) ∧ w' = (w.alloc (.cells #[.int .i64 y, .bool sb] 65)).alloc (.cells #[.int .i64 y, .bool sb] 65))) (lt : Bool) (hlt : decide (x < y) = lt) (hg : g = bif lt then y else x) (hl : l = bif lt then x else y) (w : World) :
  Calls Try.prog 52 #[.int .i64 8, kn a sa, kn b sb] w fun e w' => e = .returned (kn (x) (sa || sb)) ∧ More w w' := by
 unfold kn at *
 cases lt <;> cases sa
 all_goals
  simp only [cond_true, cond_false] at hg hl
  subst hg hl
  go_enter Try.func52, Try.ntmps52
  go_wp2_with (fail)
  refine (c1 _).mono ?_
  rintro e w1 ⟨rfl, rfl⟩
  go_wp2_with (fail)
  refine (c2 _).mono ?_
  rintro e w1 ⟨rfl, rfl⟩
  go_wp2
  exact bodyPost_ret (by simp [results, Try.results52, go_sem]) rfl ⟨rfl, (((((((((More.refl _).alloc _ _).alloc _ _).alloc _ _).alloc _ _).alloc _ _).alloc _ _).alloc _ _).alloc _ _)⟩

theorem rop_9 (a b x y g l : Int) (sa sb : Bool) (c1 : (∀ w : World, Calls Try.prog 65 #[kn a sa] w fun e w' => e = .returned (kn x sa) ∧ w' = (w.alloc (.cells #[.int .i64 x, .bool sa] 65)).alloc (.cells #[.int .i64 x, .bool sa] 65))) (c2 : (∀ w : World, Calls Try.prog 65 #[kn b sb] w fun e w' => e = .returned (kn y sb) ∧ w' = (w.alloc (.cells #[.int .i64 y, .bool sb] 65)).alloc (.cells #[.int .i64 y, .bool sb] 65))) (lt : Bool) (hlt : decide (x < y) = lt) (hg : g = bif lt then y else x) (hl : l = bif lt then x else y) (w : World) :
  Calls Try.prog 52 #[.int .i64 9, kn a sa, kn b sb] w fun e w' => e = .returned (kn (x) (sa || sb)) ∧ More w w' := by
 unfold kn at *
 cases lt <;> cases sa
 all_goals
  simp only [cond_true, cond_false] at hg hl
  subst hg hl
  go_enter Try.func52, Try.ntmps52
  go_wp2_with (fail)
  refine (c1 _).mono ?_
  rintro e w1 ⟨rfl, rfl⟩
  go_wp2_with (fail)
  refine (c2 _).mono ?_
  rintro e w1 ⟨rfl, rfl⟩
  go_wp2
  exact bodyPost_ret (by simp [results, Try.results52, go_sem]) rfl ⟨rfl, (((((((((More.refl _).alloc _ _).alloc _ _).alloc _ _).alloc _ _).alloc _ _).alloc _ _).alloc _ _).alloc _ _)⟩

theorem Jkg (a b x y g l : Int) (sa sb : Bool) (c1 : (∀ w : World, Calls Try.prog 65 #[kn a sa] w fun e w' => e = .returned (kn x sa) ∧ w' = (w.alloc (.cells #[.int .i64 x, .bool sa] 65)).alloc (.cells #[.int .i64 x, .bool sa] 65))) (c2 : (∀ w : World, Calls Try.prog 65 #[kn b sb] w fun e w' => e = .returned (kn y sb) ∧ w' = (w.alloc (.cells #[.int .i64 y, .bool sb] 65)).alloc (.cells #[.int .i64 y, .bool sb] 65))) (lt : Bool) (hlt : decide (x < y) = lt) (hg : g = bif lt then y else x) (hl : l = bif lt then x else y) (w : World) :
  Calls Try.prog 52 #[.int .i64 10, kn a sa, kn b sb] w fun e w' => e = .returned (kn (x) (sa || sb)) ∧ More w w' := by
 unfold kn at *
 cases lt <;> cases sa
 all_goals
  simp only [cond_true, cond_false] at hg hl
  subst hg hl
  go_enter Try.func52, Try.ntmps52
  go_wp2_with (fail)
  refine (c1 _).mono ?_
  rintro e w1 ⟨rfl, rfl⟩
  go_wp2_with (fail)
  refine (c2 _).mono ?_
  rintro e w1 ⟨rfl, rfl⟩
  go_wp2
  exact bodyPost_ret (by simp [results, Try.results52, go_sem]) rfl ⟨rfl, (((((((((More.refl _).alloc _ _).alloc _ _).alloc _ _).alloc _ _).alloc _ _).alloc _ _).alloc _ _).alloc _ _)⟩

theorem Jed (a b x y g l : Int) (sa sb : Bool) (c1 : (∀ w : World, Calls Try.prog 65 #[kn a sa] w fun e w' => e = .returned (kn x sa) ∧ w' = (w.alloc (.cells #[.int .i64 x, .bool sa] 65)).alloc (.cells #[.int .i64 x, .bool sa] 65))) (c2 : (∀ w : World, Calls Try.prog 65 #[kn b sb] w fun e w' => e = .returned (kn y sb) ∧ w' = (w.alloc (.cells #[.int .i64 y, .bool sb] 65)).alloc (.cells #[.int .i64 y, .bool sb] 65))) (lt : Bool) (hlt : decide (x < y) = lt) (hg : g = bif lt then y else x) (hl : l = bif lt then x else y) (op : Int) (h1 : ¬ op = 1) (h3 : ¬ op = 3) (h4 : ¬ op = 4) (h5 : ¬ op = 5) (h6 : ¬ op = 6) (h8 : ¬ op = 8) (h9 : ¬ op = 9) (h10 : ¬ op = 10) (w : World) :
  Calls Try.prog 52 #[.int .i64 op, kn a sa, kn b sb] w fun e w' => e = .returned (kn (17) (sa || sb)) ∧ More w w' := by
 unfold kn at *
 have e1 : (op == 1) = false := by simp [h1]
 have e3 : (op == 3) = false := by simp [h3]
 have e4 : (op == 4) = false := by simp [h4]
 have e5 : (op == 5) = false := by simp [h5]
 have e6 : (op == 6) = false := by simp [h6]
 have e8 : (op == 8) = false := by simp [h8]
 have e9 : (op == 9) = false := by simp [h9]
 have e10 : (op == 10) = false := by simp [h10]
 clear h1 h3 h4 h5 h6 h8 h9 h10
 cases lt <;> cases sa
 all_goals
  simp only [cond_true, cond_false] at hg hl
  subst hg hl
  go_enter Try.func52, Try.ntmps52
  go_wp2_with (fail)
  refine (c1 _).mono ?_
  rintro e w1 ⟨rfl, rfl⟩
  go_wp2_with (fail)
  refine (c2 _).mono ?_
  rintro e w1 ⟨rfl, rfl⟩
  go_wp2
  exact bodyPost_ret (by simp [results, Try.results52, go_sem]) rfl ⟨rfl, (((((((((More.refl _).alloc _ _).alloc _ _).alloc _ _).alloc _ _).alloc _ _).alloc _ _).alloc _ _).alloc _ _)⟩
theorem J98 (op a b : Int) (sa sb : Bool) (w : World) :
  Calls Try.prog 52 #[.int .i64 op, kn a sa, kn b sb] w fun e w' => e = .returned (kn (opB op (bnd a) (bnd b)) (sa || sb)) ∧ More w w' := by
 have ra := J0j a
 have rb := J0j b
 have c1 := J20 a sa
 have c2 := J20 b sb
 generalize bnd a = x at *
 generalize bnd b = y at *
 have hg : max x y = bif decide (x < y) then y else x := by by_cases h : x < y <;> simp [h] <;> omega
 have hl : min x y = bif decide (x < y) then x else y := by by_cases h : x < y <;> simp [h] <;> omega
 by_cases q1 : op = 1
 ·subst q1
  by_cases hz : x = 0 ∨ y = 0
  ·rw [show opB 1 x y = max x y by simp [opB, hz]]
   exact Jkh a b x y _ _ sa sb c1 c2 _ rfl hg hl (by omega) (by omega) (by omega) (by omega) _ (fun w => J4a _ (by omega) w) (by rw [beq_iff_eq]; omega) w
  ·rw [show opB 1 x y = bnd (max x y + 1) by simp [opB, hz]]
   exact rop_1 a b x y _ _ sa sb c1 c2 _ rfl hg hl (by omega) (by omega) (by omega) (by omega) _ (fun w => J4a _ (by omega) w) (by rw [beq_eq_false_iff_ne]; omega) w
 by_cases q3 : op = 3
 ·subst q3
  by_cases hz : x = 0 ∨ y = 0
  ·rw [show opB 3 x y = 0 by simp [opB, hz]]
   exact Jki a b x y _ _ sa sb c1 c2 _ rfl hg hl (by omega) (by omega) (by omega) (by omega) _ (fun w => J4a _ (by omega) w) (by rw [beq_iff_eq]; omega) w
  ·rw [show opB 3 x y = bnd (max x y + min x y) by rw [show max x y + min x y = x + y by omega]; simp [opB, hz]]
   exact rop_3 a b x y _ _ sa sb c1 c2 _ rfl hg hl (by omega) (by omega) (by omega) (by omega) _ (fun w => J4a _ (by omega) w) (by rw [beq_eq_false_iff_ne]; omega) w
 by_cases q4 : op = 4
 ·subst q4; exact rop_4 a b x y _ _ sa sb c1 c2 _ rfl hg hl w
 by_cases q5 : op = 5
 ·subst q5; exact rop_5 a b x y _ _ sa sb c1 c2 _ rfl hg hl w
 by_cases q6 : op = 6
 ·subst q6; exact rop_6 a b x y _ _ sa sb c1 c2 _ rfl hg hl w
 by_cases q8 : op = 8
 ·subst q8; exact rop_8 a b x y _ _ sa sb c1 c2 _ rfl hg hl w
 by_cases q9 : op = 9
 ·subst q9; exact rop_9 a b x y _ _ sa sb c1 c2 _ rfl hg hl w
 by_cases q10 : op = 10
 ·subst q10; exact Jkg a b x y _ _ sa sb c1 c2 _ rfl hg hl w
 ·rw [show opB op x y = 17 by unfold opB; rw [if_neg q1, if_neg q3, if_neg q4, if_neg (by omega), if_neg (by omega)]]
  exact Jed a b x y _ _ sa sb c1 c2 _ rfl hg hl op q1 q3 q4 q5 q6 q8 q9 q10 w
end
section
open Go.RowKit
set_option linter.unusedSimpArgs false
set_option linter.unusedVariables false
set_option maxRecDepth 8000
theorem Jda (a n : Int) (s : Bool) (h : n < 0) (w : World) :
  Calls Try.prog 25 #[kn a s, .int .i64 n] w fun e w' => e = .returned (kn 17 s) ∧ More w w' := by
 unfold kn
 go_enter Try.func25, Try.ntmps25
 go_wp2
 exact bodyPost_ret (by simp [results, Try.results25, go_sem]) rfl ⟨rfl, ((More.refl _).alloc _ _).alloc _ _⟩

theorem Jdb (a n f r : Int) (s s' : Bool) (h : ¬ n < 0)
  (c1 : ∀ w : World, Calls Try.prog 50 #[.int .i64 n] w fun e w' => e = .returned (kn f false) ∧ More w w')
  (c2 : ∀ w : World, Calls Try.prog 52 #[.int .i64 1, kn a s, kn f false] w fun e w' => e = .returned (kn r s') ∧ More w w') (w : World) :
  Calls Try.prog 25 #[kn a s, .int .i64 n] w fun e w' => e = .returned (kn r s') ∧ More w w' := by
 unfold kn at *
 have hn : decide (n < 0) = false := by simp; omega
 clear h
 go_enter Try.func25, Try.ntmps25
 go_wp2_with (fail)
 refine (c1 _).mono ?_
 rintro e w1 ⟨rfl, m1⟩
 have a0 : w1.cell? ⟨w.heap.size, 0, none⟩ = some (.int .i64 a) := m1.cell (by go_simp)
 have a1 : w1.cell? ⟨w.heap.size, 1, none⟩ = some (.bool s) := m1.cell (by go_simp)
 have Hb1 : Hid (Blk w1 (w.heap.size + 1) #[.int .i64 0, .bool false] 65) := (by simpa using Blk.last (w.alloc (.cells #[.int .i64 a, .bool s] 65)) #[.int .i64 0, .bool false] 65 : Blk _ (w.heap.size + 1) _ _).more m1
 have Hm1 : Hid (More w w1) := (((More.refl _).alloc _ _).alloc _ _).trans m1
 have za : w.heap.size < w1.heap.size := J05 a0
 clear m1
 go_wp2_with (fail)
 refine (c2 _).mono ?_
 rintro e w2 ⟨rfl, m2⟩
 have hblk := Hb1.out.more (((More.refl _).alloc _ _).trans m2)
 have d0 := hblk.cell (j := 0) rfl
 have d1 := hblk.cell (j := 1) rfl
 have f0 := hblk.frozen 0
 have f1 := hblk.frozen 1
 have Hm2 : Hid (More w w2) := (Hm1.out.alloc _ _).trans m2
 clear m2 hblk
 go_wp2
 exact bodyPost_ret (by simp [results, Try.results25, go_sem, *]) rfl ⟨rfl, (Hm2.out.setCell (by simp) _).setCell (by simp) _⟩

theorem J65 (k : Kn) (n : Int) (n0 : -9223372036854775808 ≤ n) (n1 : n ≤ 9223372036854775807) (w : World) :
  Calls Try.prog 25 #[kn k.b k.s, .int .i64 n] w fun e w' => e = .returned (kn (Kn.index k n).b (Kn.index k n).s) ∧ More w w' := by
 by_cases h : n < 0
 ·have e : Kn.index k n = ⟨17, k.s⟩ := by unfold Kn.index; rw [if_pos h]
  rw [e]; exact Jda k.b n k.s h w
 ·have e : Kn.index k n = Kn.op 1 k (Kn.of n) := by unfold Kn.index; rw [if_neg h]
  rw [e]
  exact Jdb k.b n (fitI n) _ k.s _ h (fun w => J6o n n0 n1 w) (J98 1 k.b (fitI n) k.s false) w

set_option maxHeartbeats 1000000 in
theorem J4j (b : Bool) (g c : Nat) (s : KS) (r : Int) (x y : Kn) (w : World) (h : KRow w g s) (r0 : 0 ≤ r) (r1 : r < 8) :
  Calls Try.prog 49 #[st b g c, .int .i64 r, kn x.b x.s, kn y.b y.s] w fun e w' => ∃ g' c', e = .returned (st b g' c') ∧ w.heap.size ≤ g' ∧ KRow w' g' (setK s r (Kn.less x y)) ∧ More w w' := by
 have H : Hid (KRow w g s) := h
 obtain ⟨v, hv⟩ : ∃ v, Kn.less x y = v := ⟨_, rfl⟩
 have c2 : ∀ w : World, Calls Try.prog 51 #[kn x.b x.s, kn y.b y.s] w fun e w' => e = .returned (kn v.b v.s) ∧ More w w' := fun w => hv ▸ J6n x.b y.b x.s y.s w
 rw [hv]
 obtain ⟨xb, xs⟩ := x
 obtain ⟨yb, ys⟩ := y
 obtain ⟨vb, vs⟩ := v
 clear h hv
 unfold st kn at *
 dsimp only at *
 go_enter Try.func49, Try.ntmps49
 go_wp2_with (fail)
 refine (J0o b g c s _ (H.out.more ((((More.refl _).alloc _ _).alloc _ _).alloc _ _ |>.alloc _ _))).mono ?_
 rintro e w1 ⟨g1, c1, rfl, hg1, hr1, m1⟩
 have Hx : Hid (Blk w1 (w.heap.size + 1) #[.int .i64 xb, .bool xs] 65) := ((by simpa using Blk.last (w.alloc (.cells #[.bool b, .slice (some ⟨g, 0, none⟩) 8 c] 57)) #[.int .i64 xb, .bool xs] 65 : Blk _ (w.heap.size + 1) _ _).more (((More.refl _).alloc _ _).alloc _ _)).more m1
 have Hy : Hid (Blk w1 (w.heap.size + 1 + 1) #[.int .i64 yb, .bool ys] 65) := ((by simpa using Blk.last ((w.alloc (.cells #[.bool b, .slice (some ⟨g, 0, none⟩) 8 c] 57)).alloc (.cells #[.int .i64 xb, .bool xs] 65)) #[.int .i64 yb, .bool ys] 65 : Blk _ (w.heap.size + 1 + 1) _ _).more ((More.refl _).alloc _ _)).more m1
 have Hres : Hid (Blk w1 (w.heap.size + 1 + 1 + 1) #[.bool false, .slice none 0 0] 57) := (by simpa using Blk.last (((w.alloc (.cells #[.bool b, .slice (some ⟨g, 0, none⟩) 8 c] 57)).alloc (.cells #[.int .i64 xb, .bool xs] 65)).alloc (.cells #[.int .i64 yb, .bool ys] 65)) #[.bool false, .slice none 0 0] 57 : Blk _ (w.heap.size + 1 + 1 + 1) _ _).more m1
 have Hm1 : Hid (More w w1) := ((((More.refl _).alloc _ _).alloc _ _).alloc _ _ |>.alloc _ _).trans m1
 have Hr1 : Hid (KRow w1 g1 s) := hr1
 have Hg1 : Hid (w.heap.size + 4 ≤ g1) := by show _ ≤ _; simpa using hg1
 clear m1 hr1 hg1
 obtain ⟨W1, HW1⟩ : ∃ W1 : World, Hid (W1 = w1.alloc (.cells #[.bool b, .slice (some ⟨g1, 0, none⟩) 8 c1] 57)) := ⟨_, rfl⟩
 have HmW : Hid (More w1 W1) := HW1.out ▸ (More.refl _).alloc _ _
 have HbW : Hid (Blk W1 w1.heap.size #[.bool b, .slice (some ⟨g1, 0, none⟩) 8 c1] 57) := HW1.out ▸ Blk.last _ _ _
 obtain ⟨S, HS⟩ : ∃ S : World → Prop, Hid (∀ w', S w' ↔ (Blk w' (w.heap.size + 1) #[.int .i64 xb, .bool xs] 65 ∧ Blk w' (w.heap.size + 1 + 1) #[.int .i64 yb, .bool ys] 65 ∧ Blk w' w1.heap.size #[.bool b, .slice (some ⟨g1, 0, none⟩) 8 c1] 57)) := ⟨_, fun _ => Iff.rfl⟩
 have HSm : Hid (∀ w', More W1 w' → S w') := fun w' m => (HS.out _).2 ⟨Hx.out.more (HmW.out.trans m), Hy.out.more (HmW.out.trans m), HbW.out.more m⟩
 have HS0 : S W1.drew := HSm.out _ (More.refl _).drew
 have hne : Nonempty { w' // S w' } := ⟨⟨_, HS0⟩⟩
 have k0 : ∀ i : { w' // S w' }, i.val.cell? ⟨w.heap.size + 1, 0, none⟩ = some (.int .i64 xb) := fun i => ((HS.out _).1 i.property).1.cell rfl
 have k1 : ∀ i : { w' // S w' }, i.val.cell? ⟨w.heap.size + 1, 1, none⟩ = some (.bool xs) := fun i => ((HS.out _).1 i.property).1.cell rfl
 have k2 : ∀ i : { w' // S w' }, i.val.cell? ⟨w.heap.size + 1 + 1, 0, none⟩ = some (.int .i64 yb) := fun i => ((HS.out _).1 i.property).2.1.cell rfl
 have k3 : ∀ i : { w' // S w' }, i.val.cell? ⟨w.heap.size + 1 + 1, 1, none⟩ = some (.bool ys) := fun i => ((HS.out _).1 i.property).2.1.cell rfl
 have k4 : ∀ i : { w' // S w' }, i.val.cell? ⟨w1.heap.size, 1, none⟩ = some (.slice (some ⟨g1, 0, none⟩) 8 c1) := fun i => ((HS.out _).1 i.property).2.2.cell rfl
 go_wp2_with (fail)
 rw [← HW1.out]
 refine J01 (S := S) [(0, true), (1, true), (2, true), (3, true), (4, true), (5, false), (6, true), (7, false)] (by kernel_rfl) (by kernel_rfl) (by kernel_rfl) HS0 ?_
 iterate 5 (refine J00 rfl (by kernel_rfl) (fun K hK => ?_); go_simp; refine hK _ _ ?_; clear hK K)
 refine J02 rfl (by kernel_rfl) (fun K hK => ?_); go_simp
 refine (c2 _).mono ?_
 rintro e w2 ⟨rfl, m2⟩
 have HS2 : S w2 := HSm.out _ ((More.refl _).drew.trans m2)
 have Hm2 : Hid (More W1 w2) := (More.refl _).drew.trans m2
 clear m2
 go_simp
 refine hK _ _ HS2 ?_; clear hK K
 (refine J00 rfl (by kernel_rfl) (fun K hK => ?_); go_simp; refine hK _ _ ?_; clear hK K)
 have Hrow : Hid (KRow w2 g1 s) := Hr1.out.more (HmW.out.trans Hm2.out)
 have hr : r.toNat < 8 := by omega
 have q := Hrow.out r.toNat hr
 have q0 := q.1.1
 have q1 := q.1.2
 have q2 := q.2.1
 have q3 := q.2.2
 have hne1 : g1 ≠ w1.heap.size := by have := Hr1.out.lt; omega
 obtain ⟨w3, Hw3⟩ : ∃ w3, Hid (w3 = (w2.setCell ⟨g1, r.toNat * 2, none⟩ (.int .i64 vb)).setCell ⟨g1, r.toNat * 2 + 1, none⟩ (.bool vs)) := ⟨_, rfl⟩
 have Hrow3 : Hid (KRow w3 g1 (setK s r ⟨vb, vs⟩)) := Hw3.out ▸ Hrow.out.set r ⟨vb, vs⟩ hr
 have Hb3 : Hid (Blk w3 w1.heap.size #[.bool b, .slice (some ⟨g1, 0, none⟩) 8 c1] 57) := Hw3.out ▸ ((HbW.out.more Hm2.out).other hne1 _ _).other hne1 _ _
 have Hres3 : Hid (Blk w3 (w.heap.size + 1 + 1 + 1) #[.bool false, .slice none 0 0] 57) := Hw3.out ▸ ((Hres.out.more (HmW.out.trans Hm2.out)).other (by have := Hg1.out; omega) _ _).other (by have := Hg1.out; omega) _ _
 have Hm3 : Hid (More w w3) := Hw3.out ▸ (((Hm1.out.trans HmW.out).trans Hm2.out).setCell (by have := Hg1.out; dsimp only; omega) _).setCell (by have := Hg1.out; dsimp only; omega) _
 have HS3 : S w3 := (HS.out _).2 ⟨Hw3.out ▸ ((Hx.out.more (HmW.out.trans Hm2.out)).other (by have := Hg1.out; omega) _ _).other (by have := Hg1.out; omega) _ _, Hw3.out ▸ ((Hy.out.more (HmW.out.trans Hm2.out)).other (by have := Hg1.out; omega) _ _).other (by have := Hg1.out; omega) _ _, Hb3.out⟩
 refine J02 rfl (by kernel_rfl) (fun K hK => ?_); go_simp
 rw [← Hw3.out]
 refine hK _ _ HS3 ?_; clear hK K
 refine J04 ?_
 clear k0 k1 k2 k3 k4 hne HS0 HS2 HS3 q q0 q1 q2 q3
 have p0 := Hb3.out.cell (j := 0) rfl
 have p1 := Hb3.out.cell (j := 1) rfl
 have t0 := Hres3.out.cell (j := 0) rfl
 have t1 := Hres3.out.cell (j := 1) rfl
 have u0 := Hres3.out.frozen 0
 have u1 := Hres3.out.frozen 1
 go_wp2
 refine bodyPost_ret (by simp [results, Try.results49, go_sem, *]) rfl ⟨g1, c1, rfl, by have := Hg1.out; omega, ?_, ?_⟩
 ·exact (Hrow3.out.other (by have := Hg1.out; omega) _ _).other (by have := Hg1.out; omega) _ _
 ·exact (Hm3.out.setCell (by dsimp only; omega) _).setCell (by dsimp only; omega) _
theorem Jde (av : Value) (hav : ∃ a n c, av = .slice a n c) (b : Bool) (g c : Nat) (s : KS) (w : World) (h : KRow w g s) :
  Calls Try.prog 46 #[.agg #[.bool false, av], st b g c] w fun e w' => ∃ g' c', e = .returned (st b g' c') ∧ w.heap.size ≤ g' ∧ KRow w' g' s ∧ More w w' := by
 have H : Hid (KRow w g s) := h
 clear h
 obtain ⟨a, n, ca, rfl⟩ := hav
 unfold st
 go_enter Try.func46, Try.ntmps46
 go_wp2_with (fail)
 refine (J0o b g c s _ (H.out.more (((More.refl _).alloc _ _).alloc _ _ |>.alloc _ _))).mono ?_
 rintro e w1 ⟨g1, c1, rfl, hg1, hr1, m1⟩
 have Hres : Hid (Blk w1 (w.heap.size + 1 + 1) #[.bool false, .slice none 0 0] 57) := (by simpa using Blk.last ((w.alloc (.cells #[.bool false, .slice a n ca] 57)).alloc (.cells #[.bool b, .slice (some ⟨g, 0, none⟩) 8 c] 57)) #[.bool false, .slice none 0 0] 57 : Blk _ (w.heap.size + 1 + 1) _ _).more m1
 have Hm1 : Hid (More w w1) := (((More.refl _).alloc _ _).alloc _ _ |>.alloc _ _).trans m1
 have Hr1 : Hid (KRow w1 g1 s) := hr1
 have Hg1 : Hid (w.heap.size + 3 ≤ g1) := by show _ ≤ _; simpa using hg1
 clear m1 hr1 hg1
 have t0 := Hres.out.cell (j := 0) rfl
 have t1 := Hres.out.cell (j := 1) rfl
 have u0 := Hres.out.frozen 0
 have u1 := Hres.out.frozen 1
 unfold st
 go_wp2
 refine bodyPost_ret (by simp [results, Try.results46, go_sem, *]) rfl ⟨g1, c1, rfl, by have := Hg1.out; omega, ?_, ?_⟩
 ·exact (Hr1.out.other (by have := Hg1.out; omega) _ _).other (by have := Hg1.out; omega) _ _
 ·exact (Hm1.out.setCell (by dsimp only; omega) _).setCell (by dsimp only; omega) _

def J79 (s t : KS) (k : Nat) : KS := fun j => if j < k then Kn.join (s j) (t j) else s j

structure JFix (n ga ca gb cb g1 c1 n1 : Nat) (sa sb : KS) (b b' : Bool) (w : World) : Prop where
 fa : Blk w n #[.bool b, .slice (some ⟨ga, 0, none⟩) 8 ca] 57
 fb : Blk w (n + 1) #[.bool b', .slice (some ⟨gb, 0, none⟩) 8 cb] 57
 fr : Blk w (n + 1 + 1) #[.bool false, .slice none 0 0] 57
 fs : Blk w n1 #[.bool b, .slice (some ⟨g1, 0, none⟩) 8 c1] 57
 ka : KRow w ga sa
 kb : KRow w gb sb
theorem JFix.more {n ga ca gb cb g1 c1 n1 : Nat} {sa sb : KS} {b b' : Bool} {w w' : World} (m : More w w') (h : JFix n ga ca gb cb g1 c1 n1 sa sb b b' w) : JFix n ga ca gb cb g1 c1 n1 sa sb b b' w' :=
 ⟨h.fa.more m, h.fb.more m, h.fr.more m, h.fs.more m, h.ka.more m, h.kb.more m⟩
theorem JFix.set {n ga ca gb cb g1 c1 n1 : Nat} {sa sb : KS} {b b' : Bool} {w : World} (h : JFix n ga ca gb cb g1 c1 n1 sa sb b b' w) (h1 : n + 1 + 1 < g1) (h2 : g1 ≠ n1) (h3 : g1 ≠ ga) (h4 : g1 ≠ gb) (o : Nat) (v : Value) :
  JFix n ga ca gb cb g1 c1 n1 sa sb b b' (w.setCell ⟨g1, o, none⟩ v) :=
 ⟨h.fa.other (by omega) _ _, h.fb.other (by omega) _ _, h.fr.other (by omega) _ _, h.fs.other h2 _ _, h.ka.other h3 _ _, h.kb.other h4 _ _⟩

set_option maxHeartbeats 2000000 in
theorem Jdf (b b' : Bool) (ga ca gb cb : Nat) (sa sb : KS) (w : World) (ha : KRow w ga sa) (hb : KRow w gb sb) (hbt : b = true) :
  Calls Try.prog 46 #[st b ga ca, st b' gb cb] w fun e w' => ∃ g' c', e = .returned (st b g' c') ∧ w.heap.size ≤ g' ∧ KRow w' g' (fun j => Kn.join (sa j) (sb j)) ∧ More w w' := by
 have Ha : Hid (KRow w ga sa) := ha
 have Hb : Hid (KRow w gb sb) := hb
 clear ha hb
 have Cj : Hid (∀ (x y : Kn) (w : World), Calls Try.prog 63 #[kn x.b x.s, kn y.b y.s] w fun e w' => e = .returned (kn (Kn.join x y).b (Kn.join x y).s) ∧ More w w') := fun x y w => Jae x.b y.b x.s y.s w
 subst hbt
 unfold st
 go_enter Try.func46, Try.ntmps46
 go_wp2_with (fail)
 refine (J0o true ga ca sa _ (Ha.out.more (((More.refl _).alloc _ _).alloc _ _ |>.alloc _ _))).mono ?_
 rintro e w1 ⟨g1, c1, rfl, hg1, hr1, m1⟩
 obtain ⟨W1, HW1⟩ : ∃ W1 : World, Hid (W1 = w1.alloc (.cells #[.bool true, .slice (some ⟨g1, 0, none⟩) 8 c1] 57)) := ⟨_, rfl⟩
 have HF : Hid (JFix w.heap.size ga ca gb cb g1 c1 w1.heap.size sa sb true b' W1) := by
  have mW : More w1 W1 := HW1.out ▸ (More.refl _).alloc _ _
  have e0 : Blk (((w.alloc (.cells #[.bool true, .slice (some ⟨ga, 0, none⟩) 8 ca] 57)).alloc (.cells #[.bool b', .slice (some ⟨gb, 0, none⟩) 8 cb] 57)).alloc (.cells #[.bool false, .slice none 0 0] 57)) w.heap.size #[.bool true, .slice (some ⟨ga, 0, none⟩) 8 ca] 57 := (Blk.last _ _ _).more (((More.refl _).alloc _ _).alloc _ _)
  have e1 : Blk (((w.alloc (.cells #[.bool true, .slice (some ⟨ga, 0, none⟩) 8 ca] 57)).alloc (.cells #[.bool b', .slice (some ⟨gb, 0, none⟩) 8 cb] 57)).alloc (.cells #[.bool false, .slice none 0 0] 57)) (w.heap.size + 1) #[.bool b', .slice (some ⟨gb, 0, none⟩) 8 cb] 57 := (by simpa using Blk.last (w.alloc (.cells #[.bool true, .slice (some ⟨ga, 0, none⟩) 8 ca] 57)) #[.bool b', .slice (some ⟨gb, 0, none⟩) 8 cb] 57 : Blk _ (w.heap.size + 1) _ _).more ((More.refl _).alloc _ _)
  have e2 : Blk (((w.alloc (.cells #[.bool true, .slice (some ⟨ga, 0, none⟩) 8 ca] 57)).alloc (.cells #[.bool b', .slice (some ⟨gb, 0, none⟩) 8 cb] 57)).alloc (.cells #[.bool false, .slice none 0 0] 57)) (w.heap.size + 1 + 1) #[.bool false, .slice none 0 0] 57 := by simpa using Blk.last ((w.alloc (.cells #[.bool true, .slice (some ⟨ga, 0, none⟩) 8 ca] 57)).alloc (.cells #[.bool b', .slice (some ⟨gb, 0, none⟩) 8 cb] 57)) #[.bool false, .slice none 0 0] 57
  have m0 := (((More.refl w).alloc #[.bool true, .slice (some ⟨ga, 0, none⟩) 8 ca] 57).alloc #[.bool b', .slice (some ⟨gb, 0, none⟩) 8 cb] 57 |>.alloc #[.bool false, .slice none 0 0] 57).trans (m1.trans mW)
  exact ⟨e0.more (m1.trans mW), e1.more (m1.trans mW), e2.more (m1.trans mW), HW1.out ▸ Blk.last _ _ _, Ha.out.more m0, Hb.out.more m0⟩
 have HK : Hid (KRow W1 g1 sa) := hr1.more (HW1.out ▸ (More.refl _).alloc _ _)
 have HM : Hid (More w W1) := ((((More.refl _).alloc _ _).alloc _ _ |>.alloc _ _).trans m1).trans (HW1.out ▸ (More.refl _).alloc _ _)
 have HG : Hid (w.heap.size + 3 ≤ g1 ∧ g1 < w1.heap.size) := ⟨by simpa using hg1, hr1.lt⟩
 have HA : Hid (ga < w.heap.size ∧ gb < w.heap.size) := ⟨Ha.out.lt, Hb.out.lt⟩
 clear m1 hr1 hg1
 go_wp2_with (fail)
 rw [← HW1.out]
 go_loopg [6] 8 (fun g iv wr => ∃ k : Nat, k + g = 8 ∧ iv = .int .i64 k ∧ Hid (JFix w.heap.size ga ca gb cb g1 c1 w1.heap.size sa sb true b' wr ∧ KRow wr g1 (J79 sa sb k) ∧ More w wr))
 case atStart => exact ⟨0, by omega, rfl, HF.out, HK.out.congr (fun j _ => by simp [J79]), HM.out⟩
 case round =>
  obtain ⟨k, hkg, rfl, Hr⟩ := hrel
  have a1 := Hr.out.1.fa.cell (j := 1) rfl
  have b1 := Hr.out.1.fb.cell (j := 1) rfl
  have s0 := Hr.out.1.fs.cell (j := 0) rfl
  have s1 := Hr.out.1.fs.cell (j := 1) rfl
  cases gk with
  | zero =>
   obtain rfl : k = 8 := by omega
   have t0 := Hr.out.1.fr.cell (j := 0) rfl
   have t1 := Hr.out.1.fr.cell (j := 1) rfl
   have u0 := Hr.out.1.fr.frozen 0
   have u1 := Hr.out.1.fr.frozen 1
   go_wp2
   refine bodyPost_ret (by simp [results, Try.results46, go_sem, *]) rfl ⟨g1, ⟨c1, rfl⟩, by have := HG.out; omega, ?_, ?_⟩
   ·exact ((Hr.out.2.1.congr (fun j hj => by simp [J79, hj])).other (by have := HG.out; omega) _ _).other (by have := HG.out; omega) _ _
   ·exact (Hr.out.2.2.setCell (by dsimp only; omega) _).setCell (by dsimp only; omega) _
  | succ g =>
   have hk8 : k < 8 := by omega
   have hki : (k : Int) < 8 := by omega
   obtain ⟨S, HS⟩ : ∃ S : World → Prop, Hid (∀ w', S w' ↔ JFix w.heap.size ga ca gb cb g1 c1 w1.heap.size sa sb true b' w') := ⟨_, fun _ => Iff.rfl⟩
   have HS0 : S wr.drew := (HS.out _).2 (Hr.out.1.more (More.refl _).drew)
   have hne : Nonempty { w' // S w' } := ⟨⟨_, HS0⟩⟩
   have k0 : ∀ i : { w' // S w' }, i.val.cell? ⟨w.heap.size, 1, none⟩ = some (.slice (some ⟨ga, 0, none⟩) 8 ca) := fun i => ((HS.out _).1 i.property).fa.cell rfl
   have k1 : ∀ i : { w' // S w' }, i.val.cell? ⟨w.heap.size + 1, 1, none⟩ = some (.slice (some ⟨gb, 0, none⟩) 8 cb) := fun i => ((HS.out _).1 i.property).fb.cell rfl
   have k2 : ∀ i : { w' // S w' }, i.val.cell? ⟨w1.heap.size, 1, none⟩ = some (.slice (some ⟨g1, 0, none⟩) 8 c1) := fun i => ((HS.out _).1 i.property).fs.cell rfl
   obtain ⟨xa, hxa⟩ : ∃ x, sa k = x := ⟨_, rfl⟩
   obtain ⟨xb, hxb⟩ : ∃ x, sb k = x := ⟨_, rfl⟩
   have k3 : ∀ i : { w' // S w' }, i.val.cell? ⟨ga, k * 2, none⟩ = some (.int .i64 xa.b) := fun i => hxa ▸ (((HS.out _).1 i.property).ka k hk8).1.1
   have k4 : ∀ i : { w' // S w' }, i.val.cell? ⟨ga, k * 2 + 1, none⟩ = some (.bool xa.s) := fun i => hxa ▸ (((HS.out _).1 i.property).ka k hk8).1.2
   have k5 : ∀ i : { w' // S w' }, i.val.cell? ⟨gb, k * 2, none⟩ = some (.int .i64 xb.b) := fun i => hxb ▸ (((HS.out _).1 i.property).kb k hk8).1.1
   have k6 : ∀ i : { w' // S w' }, i.val.cell? ⟨gb, k * 2 + 1, none⟩ = some (.bool xb.s) := fun i => hxb ▸ (((HS.out _).1 i.property).kb k hk8).1.2
   obtain ⟨v, hv⟩ : ∃ v, Kn.join xa xb = v := ⟨_, rfl⟩
   have c2 : ∀ w : World, Calls Try.prog 63 #[kn xa.b xa.s, kn xb.b xb.s] w fun e w' => e = .returned (kn v.b v.s) ∧ More w w' := fun w => hv ▸ Cj.out xa xb w
   have Hv : Hid (Kn.join (sa k) (sb k) = v) := by rw [hxa, hxb]; exact hv
   clear hxa hxb hv
   obtain ⟨xab, xas⟩ := xa
   obtain ⟨xbb, xbs⟩ := xb
   obtain ⟨vb, vs⟩ := v
   unfold kn at c2
   dsimp only at k3 k4 k5 k6 c2
   go_wp2_with (fail)
   clear a1 b1 s0 s1
   refine J01 (S := S) [(0, true), (1, true), (2, true), (3, true), (4, true), (5, true), (6, true), (7, true), (8, true), (9, true), (10, true), (11, true), (12, true), (13, false), (14, true), (15, false)] (by kernel_rfl) (by kernel_rfl) (by kernel_rfl) HS0 ?_
   iterate 13 (refine J00 rfl (by kernel_rfl) (fun K hK => ?_); go_simp; refine hK _ _ ?_; clear hK K)
   refine J02 rfl (by kernel_rfl) (fun K hK => ?_); go_simp
   refine (c2 _).mono ?_
   rintro e w2 ⟨rfl, m2⟩
   have Hm2 : Hid (More wr w2) := (More.refl _).drew.trans m2
   have HS2 : S w2 := (HS.out _).2 (Hr.out.1.more Hm2.out)
   clear m2
   go_simp
   refine hK _ _ HS2 ?_; clear hK K
   (refine J00 rfl (by kernel_rfl) (fun K hK => ?_); go_simp; refine hK _ _ ?_; clear hK K)
   have Hrow : Hid (KRow w2 g1 (J79 sa sb k)) := Hr.out.2.1.more Hm2.out
   have q := Hrow.out k hk8
   have q0 := q.1.1
   have q1 := q.1.2
   have q2 := q.2.1
   have q3 := q.2.2
   obtain ⟨w3, Hw3⟩ : ∃ w3, Hid (w3 = (w2.setCell ⟨g1, k * 2, none⟩ (.int .i64 vb)).setCell ⟨g1, k * 2 + 1, none⟩ (.bool vs)) := ⟨_, rfl⟩
   have Hrow3 : Hid (KRow w3 g1 (J79 sa sb (k + 1))) := by
    have h := Hrow.out.set (k : Int) ⟨vb, vs⟩ (by simpa using hk8)
    rw [Int.toNat_natCast] at h
    rw [Hw3.out]
    refine KRow.congr h (fun j hj => ?_)
    unfold setK J79
    rw [Int.toNat_natCast]
    by_cases e : j = k
    ·subst e; rw [if_pos rfl, if_pos (by omega), Hv.out]
    ·rw [if_neg e]
     by_cases e2 : j < k
     ·rw [if_pos e2, if_pos (by omega)]
     ·rw [if_neg e2, if_neg (by omega)]
   have hg := HG.out
   have hA := HA.out
   have HF3 : Hid (JFix w.heap.size ga ca gb cb g1 c1 w1.heap.size sa sb true b' w3) := Hw3.out ▸ ((Hr.out.1.more Hm2.out).set (by omega) (by omega) (by omega) (by omega) _ _).set (by omega) (by omega) (by omega) (by omega) _ _
   have Hm3 : Hid (More w w3) := Hw3.out ▸ (((Hr.out.2.2.trans Hm2.out).setCell (by dsimp only; omega) _).setCell (by dsimp only; omega) _)
   have HS3 : S w3 := (HS.out _).2 HF3.out
   clear hg hA
   refine J02 rfl (by kernel_rfl) (fun K hK => ?_); go_simp
   rw [← Hw3.out]
   refine hK _ _ HS3 ?_; clear hK K
   refine J04 ?_
   clear k0 k1 k2 k3 k4 k5 k6 hne HS0 HS2 HS3 q q0 q1 q2 q3
   go_wp2
   go_roundg g
   case measure => omega
   case rel => exact ⟨k + 1, by omega, by first | rfl | simp, HF3.out, Hrow3.out, Hm3.out⟩
structure LFix (n g c g1 c1 n8 : Nat) (rv cv : Value) (i : Ins) (s : KS) (rb ro rl : Nat) (log : Nat → Int) (sec : Nat → Bool) (w : World) : Prop where
 fp : Blk w n #[rv, cv] 25
 fs : Blk w (n + 1) #[.bool true, .slice (some ⟨g, 0, none⟩) 8 c] 57
 fi : Blk w (n + 1 + 1) #[.int .i64 i.op, .int .i64 i.a, .int .i64 i.b, .int .i64 i.c, .int .i64 i.n] 59
 ft : Blk w n8 #[.bool true, .slice (some ⟨g1, 0, none⟩) 8 c1] 57
 ks : KRow w g s
 regs : RegsAt w rb ro rl log sec
section
variable {n g c g1 c1 n8 rb ro rl : Nat} {rv cv : Value} {i : Ins} {s : KS} {log : Nat → Int} {sec : Nat → Bool} {w w' : World}
theorem LFix.more (m : More w w') (h : LFix n g c g1 c1 n8 rv cv i s rb ro rl log sec w) : LFix n g c g1 c1 n8 rv cv i s rb ro rl log sec w' :=
 ⟨h.fp.more m, h.fs.more m, h.fi.more m, h.ft.more m, h.ks.more m, h.regs.more m⟩
theorem LFix.set (h : LFix n g c g1 c1 n8 rv cv i s rb ro rl log sec w) (h1 : n + 2 < g1) (h2 : g1 ≠ n8) (h3 : g1 ≠ g) (h4 : 0 < rl → g1 ≠ rb) (o : Nat) (v : Value) : LFix n g c g1 c1 n8 rv cv i s rb ro rl log sec (w.setCell ⟨g1, o, none⟩ v) :=
 ⟨h.fp.other (by omega) _ _, h.fs.other (by omega) _ _, h.fi.other (by omega) _ _, h.ft.other h2 _ _, h.ks.other h3 _ _, fun j hj => by
  have := h.regs j hj
  have hne := h4 (by omega)
  exact ⟨by rw [World.cell?_setCell_other _ _ _ _ (by intro e; simp only [Addr.mk.injEq] at e; omega)]; exact this.1, by rw [World.cell?_setCell_other _ _ _ _ (by intro e; simp only [Addr.mk.injEq] at e; omega)]; exact this.2⟩⟩
end

def LdAt (w : World) (lo : Nat) (v : Value) (ls : List (Nat × KS)) : Prop :=
 ∃ (a : Option Addr) (b cap : Nat), v = .slice a ls.length cap ∧ (0 < ls.length → a = some ⟨b, 0, none⟩) ∧ lo ≤ b ∧ ls.length ≤ 2 ∧
  ∀ k x, ls[k]? = some x → ∃ g c, w.cell? ⟨b, k * 3, none⟩ = some (.int .i64 (x.1 : Int)) ∧ w.cell? ⟨b, k * 3 + 1, none⟩ = some (.bool true) ∧ w.cell? ⟨b, k * 3 + 2, none⟩ = some (.slice (some ⟨g, 0, none⟩) 8 c) ∧ KRow w g x.2 ∧ lo ≤ g
theorem LdAt.more {w w' : World} (m : More w w') {lo : Nat} {v : Value} {ls : List (Nat × KS)} (h : LdAt w lo v ls) : LdAt w' lo v ls := by
 obtain ⟨a, b, cap, e, h1, hb, h2, h3⟩ := h
 refine ⟨a, b, cap, e, h1, hb, h2, fun k x hx => ?_⟩
 obtain ⟨g, c, q0, q1, q2, q3, q4⟩ := h3 k x hx
 exact ⟨g, c, m.cell q0, m.cell q1, m.cell q2, q3.more m, q4⟩
theorem LdAt.other {w : World} {lo : Nat} {v : Value} {ls : List (Nat × KS)} (h : LdAt w lo v ls) {b' : Nat} (hb' : b' < lo) (o : Nat) (u : Value) : LdAt (w.setCell ⟨b', o, none⟩ u) lo v ls := by
 obtain ⟨a, b, cap, e, h1, hb, h2, h3⟩ := h
 refine ⟨a, b, cap, e, h1, hb, h2, fun k x hx => ?_⟩
 obtain ⟨g, c, q0, q1, q2, q3, q4⟩ := h3 k x hx
 have oth : ∀ o', (w.setCell ⟨b', o, none⟩ u).cell? ⟨b, o', none⟩ = w.cell? ⟨b, o', none⟩ := fun o' => World.cell?_setCell_other _ _ _ _ (by intro e'; simp only [Addr.mk.injEq] at e'; omega)
 exact ⟨g, c, (oth _).trans q0, (oth _).trans q1, (oth _).trans q2, q3.other (by omega) _ _, q4⟩

theorem LdAt.one {w : World} {lo to g c cap b : Nat} {s : KS} (hb : w.heap.size = b) (h : KRow w g s) (hl : lo ≤ g) : LdAt (w.alloc (.cells #[.int .i64 (to : Int), .bool true, .slice (some ⟨g, 0, none⟩) 8 c] 63)) lo (.slice (some ⟨b, 0, none⟩) 1 cap) [(to, s)] := by
 subst hb
 refine ⟨_, w.heap.size, cap, rfl, fun _ => rfl, by have := h.lt; omega, by simp, fun k x hx => ?_⟩
 cases k with
 | zero =>
  simp at hx
  subst hx
  have hb := Blk.last w #[.int .i64 (to : Int), .bool true, .slice (some ⟨g, 0, none⟩) 8 c] 63
  exact ⟨g, c, hb.cell rfl, hb.cell rfl, hb.cell rfl, h.more ((More.refl _).alloc _ _), hl⟩
 | succ k => simp at hx
theorem LdAt.two {w : World} {lo to to' g c g' c' cap b : Nat} {s s' : KS} (hb : w.heap.size = b) (h : KRow w g s) (hl : lo ≤ g) (h' : KRow w g' s') (hl' : lo ≤ g') :
  LdAt (w.alloc (.cells #[.int .i64 (to : Int), .bool true, .slice (some ⟨g, 0, none⟩) 8 c, .int .i64 (to' : Int), .bool true, .slice (some ⟨g', 0, none⟩) 8 c'] 63)) lo (.slice (some ⟨b, 0, none⟩) 2 cap) [(to, s), (to', s')] := by
 subst hb
 refine ⟨_, w.heap.size, cap, rfl, fun _ => rfl, by have := h.lt; omega, by simp, fun k x hx => ?_⟩
 have hb := Blk.last w #[.int .i64 (to : Int), .bool true, .slice (some ⟨g, 0, none⟩) 8 c, .int .i64 (to' : Int), .bool true, .slice (some ⟨g', 0, none⟩) 8 c'] 63
 match k, hx with
 | 0, hx =>
  simp at hx; subst hx
  exact ⟨g, c, hb.cell rfl, hb.cell rfl, hb.cell rfl, h.more ((More.refl _).alloc _ _), hl⟩
 | 1, hx =>
  simp at hx; subst hx
  exact ⟨g', c', hb.cell rfl, hb.cell rfl, hb.cell rfl, h'.more ((More.refl _).alloc _ _), hl'⟩
 | k + 2, hx => simp at hx

theorem J09 {P : Prop} (h : P) : Hid P := h
theorem J1o {w w1 W1 : World} {rv cv : Value} {g c g1 c1 rb ro rl : Nat} {log : Nat → Int} {sec : Nat → Bool} {s : KS} {i : Ins} (hk : KRow w g s) (hr : RegsAt w rb ro rl log sec)
  (m1 : More (((w.alloc (.cells #[rv, cv] 25)).alloc (.cells #[.bool true, .slice (some ⟨g, 0, none⟩) 8 c] 57)).alloc (.cells #[.int .i64 i.op, .int .i64 i.a, .int .i64 i.b, .int .i64 i.c, .int .i64 i.n] 59)) w1) (hr1 : KRow w1 g1 s)
  (hg1 : (((w.alloc (.cells #[rv, cv] 25)).alloc (.cells #[.bool true, .slice (some ⟨g, 0, none⟩) 8 c] 57)).alloc (.cells #[.int .i64 i.op, .int .i64 i.a, .int .i64 i.b, .int .i64 i.c, .int .i64 i.n] 59)).heap.size ≤ g1) (hW : W1 = w1.alloc (.cells #[.bool true, .slice (some ⟨g1, 0, none⟩) 8 c1] 57)) :
  LFix w.heap.size g c g1 c1 w1.heap.size rv cv i s rb ro rl log sec W1 ∧ KRow W1 g1 s ∧ More w W1 ∧ (w.heap.size + 3 ≤ g1 ∧ g1 < w1.heap.size ∧ w1.heap.size < W1.heap.size) ∧ (g < w.heap.size ∧ (0 < rl → rb < w.heap.size)) ∧ Blk w1 (w.heap.size + 1 + 1) #[.int .i64 i.op, .int .i64 i.a, .int .i64 i.b, .int .i64 i.c, .int .i64 i.n] 59 := by
 have mW : More w1 W1 := hW ▸ (More.refl _).alloc _ _
 have e0 := (Blk.last w #[rv, cv] 25).more (((More.refl _).alloc #[.bool true, .slice (some ⟨g, 0, none⟩) 8 c] 57).alloc #[.int .i64 i.op, .int .i64 i.a, .int .i64 i.b, .int .i64 i.c, .int .i64 i.n] 59)
 have e1 := (by simpa using Blk.last (w.alloc (.cells #[rv, cv] 25)) #[.bool true, .slice (some ⟨g, 0, none⟩) 8 c] 57 : Blk ((w.alloc (.cells #[rv, cv] 25)).alloc (.cells #[.bool true, .slice (some ⟨g, 0, none⟩) 8 c] 57)) (w.heap.size + 1) #[.bool true, .slice (some ⟨g, 0, none⟩) 8 c] 57).more ((More.refl _).alloc #[.int .i64 i.op, .int .i64 i.a, .int .i64 i.b, .int .i64 i.c, .int .i64 i.n] 59)
 have e2 := (by simpa using Blk.last ((w.alloc (.cells #[rv, cv] 25)).alloc (.cells #[.bool true, .slice (some ⟨g, 0, none⟩) 8 c] 57)) #[.int .i64 i.op, .int .i64 i.a, .int .i64 i.b, .int .i64 i.c, .int .i64 i.n] 59 : Blk (((w.alloc (.cells #[rv, cv] 25)).alloc (.cells #[.bool true, .slice (some ⟨g, 0, none⟩) 8 c] 57)).alloc (.cells #[.int .i64 i.op, .int .i64 i.a, .int .i64 i.b, .int .i64 i.c, .int .i64 i.n] 59)) (w.heap.size + 1 + 1) #[.int .i64 i.op, .int .i64 i.a, .int .i64 i.b, .int .i64 i.c, .int .i64 i.n] 59)
 have m0 : More w w1 := (((More.refl w).alloc _ _).alloc _ _ |>.alloc _ _).trans m1
 exact ⟨⟨e0.more (m1.trans mW), e1.more (m1.trans mW), e2.more (m1.trans mW), hW ▸ Blk.last _ _ _, hk.more (m0.trans mW), hr.more (m0.trans mW)⟩, hr1.more mW, m0.trans mW, ⟨by simpa using hg1, hr1.lt, by rw [hW]; simp⟩, ⟨hk.lt, fun h0 => J05 (hr 0 h0).1⟩, e2.more m1⟩
end
end Go.Proofs.Ytmpafeoileonjaa
