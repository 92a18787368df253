/-
  The texts InsB, InsC, InsD, RefForm, Open, Fuel, Arr, Bits, Bitwise, Shift, Divide, one behind the other, with what is used of them.
-/
import Derived.Test.YtmpafeoileonjaaRows
import Derived.WalkKit
import Derived.Deep.LoopGhost
import Derived.Test.YtmpafeoileonjaaJoined3
import Derived.Test.YtmpafeoileonjaaJoined0
import Derived.ProofKit
import Derived.OpenShut
import Derived.Deep.Slices
import Derived.Deep.SlicePairs
import Derived.Deep.Matrix
import Derived.Lib.SmallJoins
import Derived.Deep.WholeRow
import Derived.Test.YtmpafeoileonjaaProg
import Derived.WalkSpells
import Derived.WalkLawsBesides
import Derived.RegionTactic
import Derived.ChangeAlike
namespace Go.Proofs.Ytmpafeoileonjaa
section
open Go.RowKit
set_option maxRecDepth 8000 in
set_option maxHeartbeats 1000000 in
theorem ins_3 (ra : Option Addr) (rl rc : Nat) (ca : Option Addr) (cl cc : Nat) (a b c n regs : Int) (w : World) (P : Prop) (HP : Hid (P ↔ (True ∧ (∀ j, j < 3 → Fld regs (tri 1 1 2 j) (tri a b c j)) ∧ Rgn rl c))) :
  Calls Try.prog 53 #[.agg #[.slice ra rl rc, .slice ca cl cc], .agg #[.int .i64 3, .int .i64 a, .int .i64 b, .int .i64 c, .int .i64 n], .int .i64 regs] w (Says P w) := by
 go_enter Try.func53, Try.ntmps53
 go_wp2_with (fail)
 refine (shape_3 _).mono ?_
 rintro e w1 ⟨g, rfl, hg, m1⟩
 obtain ⟨⟨c0, c1⟩, d0, d1, d2, d3, d4⟩ := boxes2 m1
 have Hg : Hid (∀ j, j < 3 → w1.cell? ⟨g, j, none⟩ = some (.int .i64 (tri 1 1 2 j))) := hg
 have Hm1 : Hid (More w w1) := (((More.refl _).alloc _ _).alloc _ _).trans m1
 clear hg m1
 have HN : Hid True := trivial
 go_wp2
 obtain ⟨W, HW⟩ : ∃ W : World, Hid (W = w1.alloc (.cells #[.int .i64 a, .int .i64 b, .int .i64 c] 3)) := ⟨_, rfl⟩
 have Hm1W : Hid (More w1 W) := HW.out ▸ (More.refl _).alloc _ _
 have Hm : Hid (More w W) := Hm1.out.trans Hm1W.out
 have Hf : Hid (∀ j, j < 3 → W.cell? ⟨w1.heap.size, j, none⟩ = some (.int .i64 (tri a b c j))) := by rw [HW.out]; exact tri_cells (by go_simp) (by go_simp) (by go_simp)
 have Hg' : Hid (∀ j, j < 3 → W.cell? ⟨g, j, none⟩ = some (.int .i64 (tri 1 1 2 j))) := fun j hj => Hm1W.out.cell (Hg.out j hj)
 clear Hg
 replace c0 := Hm1W.out.cell c0
 replace c1 := Hm1W.out.cell c1
 replace d0 := Hm1W.out.cell d0
 replace d1 := Hm1W.out.cell d1
 replace d2 := Hm1W.out.cell d2
 replace d3 := Hm1W.out.cell d3
 replace d4 := Hm1W.out.cell d4
 go_loopg [11] 3 (fun q i wr => ∃ k : Nat, k + q = 3 ∧ i = .int .i64 k ∧ (∀ j, j < k → Fld regs (tri 1 1 2 j) (tri a b c j)) ∧ wr = W)
 case atStart => exact ⟨0, by omega, rfl, fun j hj => by omega, HW.out.symm⟩
 case round =>
  obtain ⟨k, hkg, rfl, hok, rfl⟩ := hrel
  have Hok : Hid (∀ j, j < k → Fld regs (tri 1 1 2 j) (tri a b c j)) := hok
  clear hok
  cases gk with
  | zero =>
   obtain rfl : k = 3 := by omega
   by_cases t0 : 0 ≤ c
   ·by_cases t1 : c < (rl : Int)
    ·have T : Hid (0 ≤ c ∧ c < (rl : Int)) := ⟨t0, t1⟩
     go_wp2
     go_ret
     exact ⟨_, rfl, ⟨fun _ => HP.out.2 ⟨HN.out, Hok.out, T.out⟩, fun _ => by first | rfl | (simp <;> omega)⟩, Hm.out⟩
    ·have T : Hid (¬ c < (rl : Int)) := t1
     go_wp2
     go_ret
     exact ⟨_, rfl, ⟨fun h => by first | (simp at h; done) | (simp at h; omega), fun h => by have h1 := (HP.out.1 h).2.2; have h2 := T.out; have h3 := h1.2; omega⟩, Hm.out⟩
   ·have T : Hid (¬ 0 ≤ c) := t0
    go_wp2
    go_ret
    exact ⟨_, rfl, ⟨fun h => by first | (simp at h; done) | (simp at h; omega), fun h => by have h1 := (HP.out.1 h).2.2; have h2 := T.out; have h3 := h1.1; omega⟩, Hm.out⟩
  | succ q =>
   clear d0 d1 d2 d3 d4 c0 c1
   have hk : k < 3 := by omega
   have hk' : (k : Int) < 3 := by omega
   have hk0 : (0 : Int) ≤ (k : Int) := by omega
   have qg := Hg'.out k hk
   have qf := Hf.out k hk
   obtain ⟨x, hx⟩ : ∃ x, tri 1 1 2 k = x := ⟨_, rfl⟩
   obtain ⟨y, hy⟩ : ∃ y, tri a b c k = y := ⟨_, rfl⟩
   rw [hx] at qg
   rw [hy] at qf
   have HX : Hid (tri 1 1 2 k = x ∧ tri a b c k = y) := ⟨hx, hy⟩
   clear hx hy
   have step : Hid (Fld regs x y → ∀ j, j < k + 1 → Fld regs (tri 1 1 2 j) (tri a b c j)) := by
    intro h j hj
    by_cases e : j = k
    ·subst e; rw [HX.out.1, HX.out.2]; exact h
    ·exact Hok.out j (by omega)
   have back : Hid ((∀ j, j < 3 → Fld regs (tri 1 1 2 j) (tri a b c j)) → Fld regs x y) := by
    intro h
    have := h k hk
    rw [HX.out.1, HX.out.2] at this
    exact this
   by_cases hx0 : x = 0
   ·subst hx0
    by_cases hy0 : y = 0
    ·subst hy0
     go_wp2
     go_roundg q
     case measure => omega
     case rel => exact ⟨k + 1, by omega, by first | rfl | simp, step.out ⟨fun _ => rfl, fun h => by simp at h⟩, rfl⟩
    ·have hy1 : (y != 0) = true := by simp [hy0]
     have Hy : Hid (¬ y = 0) := hy0
     clear hy0
     go_wp2
     go_ret
     exact Says.no (fun h => Hy.out ((back.out (HP.out.1 h).2.1).1 rfl)) Hm.out
   by_cases hx1 : x = 1
   ·subst hx1
    clear hx0
    by_cases hy0 : y < 0
    ·have Hy : Hid (y < 0) := hy0
     go_wp2
     go_ret
     exact Says.no (fun h => by have := ((back.out (HP.out.1 h).2.1).2 rfl).1; have := Hy.out; omega) Hm.out
    by_cases hy1 : regs ≤ y
    ·have Hy : Hid (regs ≤ y) := hy1
     go_wp2
     go_ret
     exact Says.no (fun h => by have := ((back.out (HP.out.1 h).2.1).2 rfl).2; have := Hy.out; omega) Hm.out
    have Hy : Hid (Reg regs y) := ⟨by omega, by omega⟩
    go_wp2
    go_roundg q
    case measure => omega
    case rel => exact ⟨k + 1, by omega, by first | rfl | simp, step.out ⟨fun h => by simp at h, fun _ => Hy.out⟩, rfl⟩
   have Hx : Hid (¬ x = 0 ∧ ¬ x = 1) := ⟨hx0, hx1⟩
   have hx2 : (x == 0) = false := by simp [hx0]
   have hx3 : (x == 1) = false := by simp [hx1]
   clear hx0 hx1
   go_wp2
   go_roundg q
   case measure => omega
   case rel => exact ⟨k + 1, by omega, by first | rfl | simp, step.out ⟨fun h => absurd h Hx.out.1, fun h => absurd h Hx.out.2⟩, rfl⟩

set_option maxRecDepth 8000 in
set_option maxHeartbeats 1000000 in
theorem ins_4 (ra : Option Addr) (rl rc : Nat) (ca : Option Addr) (cl cc : Nat) (a b c n regs : Int) (w : World) (P : Prop) (HP : Hid (P ↔ (True ∧ (∀ j, j < 3 → Fld regs (tri 1 1 2 j) (tri a b c j)) ∧ Rgn rl c))) :
  Calls Try.prog 53 #[.agg #[.slice ra rl rc, .slice ca cl cc], .agg #[.int .i64 4, .int .i64 a, .int .i64 b, .int .i64 c, .int .i64 n], .int .i64 regs] w (Says P w) := by
 go_enter Try.func53, Try.ntmps53
 go_wp2_with (fail)
 refine (shape_4 _).mono ?_
 rintro e w1 ⟨g, rfl, hg, m1⟩
 obtain ⟨⟨c0, c1⟩, d0, d1, d2, d3, d4⟩ := boxes2 m1
 have Hg : Hid (∀ j, j < 3 → w1.cell? ⟨g, j, none⟩ = some (.int .i64 (tri 1 1 2 j))) := hg
 have Hm1 : Hid (More w w1) := (((More.refl _).alloc _ _).alloc _ _).trans m1
 clear hg m1
 have HN : Hid True := trivial
 go_wp2
 obtain ⟨W, HW⟩ : ∃ W : World, Hid (W = w1.alloc (.cells #[.int .i64 a, .int .i64 b, .int .i64 c] 3)) := ⟨_, rfl⟩
 have Hm1W : Hid (More w1 W) := HW.out ▸ (More.refl _).alloc _ _
 have Hm : Hid (More w W) := Hm1.out.trans Hm1W.out
 have Hf : Hid (∀ j, j < 3 → W.cell? ⟨w1.heap.size, j, none⟩ = some (.int .i64 (tri a b c j))) := by rw [HW.out]; exact tri_cells (by go_simp) (by go_simp) (by go_simp)
 have Hg' : Hid (∀ j, j < 3 → W.cell? ⟨g, j, none⟩ = some (.int .i64 (tri 1 1 2 j))) := fun j hj => Hm1W.out.cell (Hg.out j hj)
 clear Hg
 replace c0 := Hm1W.out.cell c0
 replace c1 := Hm1W.out.cell c1
 replace d0 := Hm1W.out.cell d0
 replace d1 := Hm1W.out.cell d1
 replace d2 := Hm1W.out.cell d2
 replace d3 := Hm1W.out.cell d3
 replace d4 := Hm1W.out.cell d4
 go_loopg [11] 3 (fun q i wr => ∃ k : Nat, k + q = 3 ∧ i = .int .i64 k ∧ (∀ j, j < k → Fld regs (tri 1 1 2 j) (tri a b c j)) ∧ wr = W)
 case atStart => exact ⟨0, by omega, rfl, fun j hj => by omega, HW.out.symm⟩
 case round =>
  obtain ⟨k, hkg, rfl, hok, rfl⟩ := hrel
  have Hok : Hid (∀ j, j < k → Fld regs (tri 1 1 2 j) (tri a b c j)) := hok
  clear hok
  cases gk with
  | zero =>
   obtain rfl : k = 3 := by omega
   by_cases t0 : 0 ≤ c
   ·by_cases t1 : c < (rl : Int)
    ·have T : Hid (0 ≤ c ∧ c < (rl : Int)) := ⟨t0, t1⟩
     go_wp2
     go_ret
     exact ⟨_, rfl, ⟨fun _ => HP.out.2 ⟨HN.out, Hok.out, T.out⟩, fun _ => by first | rfl | (simp <;> omega)⟩, Hm.out⟩
    ·have T : Hid (¬ c < (rl : Int)) := t1
     go_wp2
     go_ret
     exact ⟨_, rfl, ⟨fun h => by first | (simp at h; done) | (simp at h; omega), fun h => by have h1 := (HP.out.1 h).2.2; have h2 := T.out; have h3 := h1.2; omega⟩, Hm.out⟩
   ·have T : Hid (¬ 0 ≤ c) := t0
    go_wp2
    go_ret
    exact ⟨_, rfl, ⟨fun h => by first | (simp at h; done) | (simp at h; omega), fun h => by have h1 := (HP.out.1 h).2.2; have h2 := T.out; have h3 := h1.1; omega⟩, Hm.out⟩
  | succ q =>
   clear d0 d1 d2 d3 d4 c0 c1
   have hk : k < 3 := by omega
   have hk' : (k : Int) < 3 := by omega
   have hk0 : (0 : Int) ≤ (k : Int) := by omega
   have qg := Hg'.out k hk
   have qf := Hf.out k hk
   obtain ⟨x, hx⟩ : ∃ x, tri 1 1 2 k = x := ⟨_, rfl⟩
   obtain ⟨y, hy⟩ : ∃ y, tri a b c k = y := ⟨_, rfl⟩
   rw [hx] at qg
   rw [hy] at qf
   have HX : Hid (tri 1 1 2 k = x ∧ tri a b c k = y) := ⟨hx, hy⟩
   clear hx hy
   have step : Hid (Fld regs x y → ∀ j, j < k + 1 → Fld regs (tri 1 1 2 j) (tri a b c j)) := by
    intro h j hj
    by_cases e : j = k
    ·subst e; rw [HX.out.1, HX.out.2]; exact h
    ·exact Hok.out j (by omega)
   have back : Hid ((∀ j, j < 3 → Fld regs (tri 1 1 2 j) (tri a b c j)) → Fld regs x y) := by
    intro h
    have := h k hk
    rw [HX.out.1, HX.out.2] at this
    exact this
   by_cases hx0 : x = 0
   ·subst hx0
    by_cases hy0 : y = 0
    ·subst hy0
     go_wp2
     go_roundg q
     case measure => omega
     case rel => exact ⟨k + 1, by omega, by first | rfl | simp, step.out ⟨fun _ => rfl, fun h => by simp at h⟩, rfl⟩
    ·have hy1 : (y != 0) = true := by simp [hy0]
     have Hy : Hid (¬ y = 0) := hy0
     clear hy0
     go_wp2
     go_ret
     exact Says.no (fun h => Hy.out ((back.out (HP.out.1 h).2.1).1 rfl)) Hm.out
   by_cases hx1 : x = 1
   ·subst hx1
    clear hx0
    by_cases hy0 : y < 0
    ·have Hy : Hid (y < 0) := hy0
     go_wp2
     go_ret
     exact Says.no (fun h => by have := ((back.out (HP.out.1 h).2.1).2 rfl).1; have := Hy.out; omega) Hm.out
    by_cases hy1 : regs ≤ y
    ·have Hy : Hid (regs ≤ y) := hy1
     go_wp2
     go_ret
     exact Says.no (fun h => by have := ((back.out (HP.out.1 h).2.1).2 rfl).2; have := Hy.out; omega) Hm.out
    have Hy : Hid (Reg regs y) := ⟨by omega, by omega⟩
    go_wp2
    go_roundg q
    case measure => omega
    case rel => exact ⟨k + 1, by omega, by first | rfl | simp, step.out ⟨fun h => by simp at h, fun _ => Hy.out⟩, rfl⟩
   have Hx : Hid (¬ x = 0 ∧ ¬ x = 1) := ⟨hx0, hx1⟩
   have hx2 : (x == 0) = false := by simp [hx0]
   have hx3 : (x == 1) = false := by simp [hx1]
   clear hx0 hx1
   go_wp2
   go_roundg q
   case measure => omega
   case rel => exact ⟨k + 1, by omega, by first | rfl | simp, step.out ⟨fun h => absurd h Hx.out.1, fun h => absurd h Hx.out.2⟩, rfl⟩

set_option maxRecDepth 8000 in
set_option maxHeartbeats 1000000 in
theorem ins_12 (ra : Option Addr) (rl rc : Nat) (ca : Option Addr) (cl cc : Nat) (a b c n regs : Int) (w : World) (P : Prop) (HP : Hid (P ↔ (n = 0 ∧ (∀ j, j < 3 → Fld regs (tri 0 0 0 j) (tri a b c j)) ∧ True))) :
  Calls Try.prog 53 #[.agg #[.slice ra rl rc, .slice ca cl cc], .agg #[.int .i64 12, .int .i64 a, .int .i64 b, .int .i64 c, .int .i64 n], .int .i64 regs] w (Says P w) := by
 go_enter Try.func53, Try.ntmps53
 go_wp2_with (fail)
 refine (shape_12 _).mono ?_
 rintro e w1 ⟨g, rfl, hg, m1⟩
 obtain ⟨⟨c0, c1⟩, d0, d1, d2, d3, d4⟩ := boxes2 m1
 have Hg : Hid (∀ j, j < 3 → w1.cell? ⟨g, j, none⟩ = some (.int .i64 (tri 0 0 0 j))) := hg
 have Hm1 : Hid (More w w1) := (((More.refl _).alloc _ _).alloc _ _).trans m1
 clear hg m1
 by_cases hn0 : n = 0
 rotate_left
 ·have HN : Hid (¬ n = 0) := hn0
  have hn1 : (n != 0) = true := by simp [hn0]
  clear hn0
  go_wp2
  go_ret
  exact Says.no (fun h => HN.out (HP.out.1 h).1) Hm1.out
 have HN : Hid (n = 0) := hn0
 have hn1 : (n != 0) = false := by simp [hn0]
 clear hn0
 go_wp2
 obtain ⟨W, HW⟩ : ∃ W : World, Hid (W = w1.alloc (.cells #[.int .i64 a, .int .i64 b, .int .i64 c] 3)) := ⟨_, rfl⟩
 have Hm1W : Hid (More w1 W) := HW.out ▸ (More.refl _).alloc _ _
 have Hm : Hid (More w W) := Hm1.out.trans Hm1W.out
 have Hf : Hid (∀ j, j < 3 → W.cell? ⟨w1.heap.size, j, none⟩ = some (.int .i64 (tri a b c j))) := by rw [HW.out]; exact tri_cells (by go_simp) (by go_simp) (by go_simp)
 have Hg' : Hid (∀ j, j < 3 → W.cell? ⟨g, j, none⟩ = some (.int .i64 (tri 0 0 0 j))) := fun j hj => Hm1W.out.cell (Hg.out j hj)
 clear Hg
 replace c0 := Hm1W.out.cell c0
 replace c1 := Hm1W.out.cell c1
 replace d0 := Hm1W.out.cell d0
 replace d1 := Hm1W.out.cell d1
 replace d2 := Hm1W.out.cell d2
 replace d3 := Hm1W.out.cell d3
 replace d4 := Hm1W.out.cell d4
 go_loopg [11] 3 (fun q i wr => ∃ k : Nat, k + q = 3 ∧ i = .int .i64 k ∧ (∀ j, j < k → Fld regs (tri 0 0 0 j) (tri a b c j)) ∧ wr = W)
 case atStart => exact ⟨0, by omega, rfl, fun j hj => by omega, HW.out.symm⟩
 case round =>
  obtain ⟨k, hkg, rfl, hok, rfl⟩ := hrel
  have Hok : Hid (∀ j, j < k → Fld regs (tri 0 0 0 j) (tri a b c j)) := hok
  clear hok
  cases gk with
  | zero =>
   obtain rfl : k = 3 := by omega
   go_wp2
   go_ret
   exact Says.yes (HP.out.2 ⟨HN.out, Hok.out, trivial⟩) Hm.out
  | succ q =>
   clear d0 d1 d2 d3 d4 c0 c1
   have hk : k < 3 := by omega
   have hk' : (k : Int) < 3 := by omega
   have hk0 : (0 : Int) ≤ (k : Int) := by omega
   have qg := Hg'.out k hk
   have qf := Hf.out k hk
   obtain ⟨x, hx⟩ : ∃ x, tri 0 0 0 k = x := ⟨_, rfl⟩
   obtain ⟨y, hy⟩ : ∃ y, tri a b c k = y := ⟨_, rfl⟩
   rw [hx] at qg
   rw [hy] at qf
   have HX : Hid (tri 0 0 0 k = x ∧ tri a b c k = y) := ⟨hx, hy⟩
   clear hx hy
   have step : Hid (Fld regs x y → ∀ j, j < k + 1 → Fld regs (tri 0 0 0 j) (tri a b c j)) := by
    intro h j hj
    by_cases e : j = k
    ·subst e; rw [HX.out.1, HX.out.2]; exact h
    ·exact Hok.out j (by omega)
   have back : Hid ((∀ j, j < 3 → Fld regs (tri 0 0 0 j) (tri a b c j)) → Fld regs x y) := by
    intro h
    have := h k hk
    rw [HX.out.1, HX.out.2] at this
    exact this
   by_cases hx0 : x = 0
   ·subst hx0
    by_cases hy0 : y = 0
    ·subst hy0
     go_wp2
     go_roundg q
     case measure => omega
     case rel => exact ⟨k + 1, by omega, by first | rfl | simp, step.out ⟨fun _ => rfl, fun h => by simp at h⟩, rfl⟩
    ·have hy1 : (y != 0) = true := by simp [hy0]
     have Hy : Hid (¬ y = 0) := hy0
     clear hy0
     go_wp2
     go_ret
     exact Says.no (fun h => Hy.out ((back.out (HP.out.1 h).2.1).1 rfl)) Hm.out
   by_cases hx1 : x = 1
   ·subst hx1
    clear hx0
    by_cases hy0 : y < 0
    ·have Hy : Hid (y < 0) := hy0
     go_wp2
     go_ret
     exact Says.no (fun h => by have := ((back.out (HP.out.1 h).2.1).2 rfl).1; have := Hy.out; omega) Hm.out
    by_cases hy1 : regs ≤ y
    ·have Hy : Hid (regs ≤ y) := hy1
     go_wp2
     go_ret
     exact Says.no (fun h => by have := ((back.out (HP.out.1 h).2.1).2 rfl).2; have := Hy.out; omega) Hm.out
    have Hy : Hid (Reg regs y) := ⟨by omega, by omega⟩
    go_wp2
    go_roundg q
    case measure => omega
    case rel => exact ⟨k + 1, by omega, by first | rfl | simp, step.out ⟨fun h => by simp at h, fun _ => Hy.out⟩, rfl⟩
   have Hx : Hid (¬ x = 0 ∧ ¬ x = 1) := ⟨hx0, hx1⟩
   have hx2 : (x == 0) = false := by simp [hx0]
   have hx3 : (x == 1) = false := by simp [hx1]
   clear hx0 hx1
   go_wp2
   go_roundg q
   case measure => omega
   case rel => exact ⟨k + 1, by omega, by first | rfl | simp, step.out ⟨fun h => absurd h Hx.out.1, fun h => absurd h Hx.out.2⟩, rfl⟩
set_option maxRecDepth 8000 in
set_option maxHeartbeats 1000000 in
theorem ins_5 (ra : Option Addr) (rl rc : Nat) (ca : Option Addr) (cl cc : Nat) (a b c n regs : Int) (w : World) (rb ro : Nat) (log : Nat → Int) (sec : Nat → Bool) (hra : 0 < rl → ra = some ⟨rb, ro, none⟩) (hr : RegsAt w rb ro rl log sec) (hok : RegionsOk rl log) (P : Prop) (HP : Hid (P ↔ (True ∧ (∀ j, j < 3 → Fld regs (tri 1 0 2 j) (tri a b c j)) ∧ Rgn rl c ∧ Wrd log c n))) :
  Calls Try.prog 53 #[.agg #[.slice ra rl rc, .slice ca cl cc], .agg #[.int .i64 5, .int .i64 a, .int .i64 b, .int .i64 c, .int .i64 n], .int .i64 regs] w (Says P w) := by
 have Hr : Hid ((0 < rl → ra = some ⟨rb, ro, none⟩) ∧ RegsAt w rb ro rl log sec ∧ RegionsOk rl log) := ⟨hra, hr, hok⟩
 clear hra hr hok
 go_enter Try.func53, Try.ntmps53
 go_wp2_with (fail)
 refine (shape_5 _).mono ?_
 rintro e w1 ⟨g, rfl, hg, m1⟩
 obtain ⟨⟨c0, c1⟩, d0, d1, d2, d3, d4⟩ := boxes2 m1
 have Hg : Hid (∀ j, j < 3 → w1.cell? ⟨g, j, none⟩ = some (.int .i64 (tri 1 0 2 j))) := hg
 have Hm1 : Hid (More w w1) := (((More.refl _).alloc _ _).alloc _ _).trans m1
 clear hg m1
 have HN : Hid True := trivial
 go_wp2
 obtain ⟨W, HW⟩ : ∃ W : World, Hid (W = w1.alloc (.cells #[.int .i64 a, .int .i64 b, .int .i64 c] 3)) := ⟨_, rfl⟩
 have Hm1W : Hid (More w1 W) := HW.out ▸ (More.refl _).alloc _ _
 have Hm : Hid (More w W) := Hm1.out.trans Hm1W.out
 have Hf : Hid (∀ j, j < 3 → W.cell? ⟨w1.heap.size, j, none⟩ = some (.int .i64 (tri a b c j))) := by rw [HW.out]; exact tri_cells (by go_simp) (by go_simp) (by go_simp)
 have Hg' : Hid (∀ j, j < 3 → W.cell? ⟨g, j, none⟩ = some (.int .i64 (tri 1 0 2 j))) := fun j hj => Hm1W.out.cell (Hg.out j hj)
 clear Hg
 replace c0 := Hm1W.out.cell c0
 replace c1 := Hm1W.out.cell c1
 replace d0 := Hm1W.out.cell d0
 replace d1 := Hm1W.out.cell d1
 replace d2 := Hm1W.out.cell d2
 replace d3 := Hm1W.out.cell d3
 replace d4 := Hm1W.out.cell d4
 go_loopg [11] 3 (fun q i wr => ∃ k : Nat, k + q = 3 ∧ i = .int .i64 k ∧ (∀ j, j < k → Fld regs (tri 1 0 2 j) (tri a b c j)) ∧ wr = W)
 case atStart => exact ⟨0, by omega, rfl, fun j hj => by omega, HW.out.symm⟩
 case round =>
  obtain ⟨k, hkg, rfl, hok, rfl⟩ := hrel
  have Hok : Hid (∀ j, j < k → Fld regs (tri 1 0 2 j) (tri a b c j)) := hok
  clear hok
  cases gk with
  | zero =>
   obtain rfl : k = 3 := by omega
   by_cases t0 : c < 0
   ·have T : Hid (c < 0) := t0
    go_wp2
    go_ret
    exact ⟨_, rfl, ⟨fun h => by first | (simp at h; done) | (simp at h; omega), fun h => by have h1 := (HP.out.1 h).2.2; have h2 := T.out; have h3 := h1.1.1; omega⟩, Hm.out⟩
   by_cases t1 : (rl : Int) ≤ c
   ·have T : Hid ((rl : Int) ≤ c) := t1
    go_wp2
    go_ret
    exact ⟨_, rfl, ⟨fun h => by first | (simp at h; done) | (simp at h; omega), fun h => by have h1 := (HP.out.1 h).2.2; have h2 := T.out; have h3 := h1.1.2; omega⟩, Hm.out⟩
   have hk : c.toNat < rl := by omega
   have t0' : 0 ≤ c := by omega
   have t1' : c < (rl : Int) := by omega
   have Hrgn : Hid (Rgn rl c) := ⟨t0', t1'⟩
   obtain rfl := Hr.out.1 (by omega)
   have q0 := ((Hr.out.2.1.more Hm.out) c.toNat hk).1
   have q1 := ((Hr.out.2.1.more Hm.out) c.toNat hk).2
   have Hlog : Hid (0 ≤ log c.toNat ∧ log c.toNat ≤ 6) := Hr.out.2.2.2 c.toNat hk
   obtain ⟨lk, hlk⟩ : ∃ x, log c.toNat = x := ⟨_, rfl⟩
   rw [hlk] at q0 Hlog
   have Hlk : Hid (log c.toNat = lk) := hlk
   clear hlk
   go_wp2_with (fail)
   obtain ⟨nw, hnw⟩ : ∃ x, wordsI lk = x := ⟨_, rfl⟩
   refine ((ref_words lk Hlog.out.1 Hlog.out.2 (sec c.toNat) _)).mono ?_
   rw [hnw]
   have Hnw : Hid (Wrd log c n ↔ (0 ≤ n ∧ n < nw)) := by unfold Wrd; rw [Hlk.out, ← hnw]; exact Iff.rfl
   clear hnw q0 q1
   rintro e w5 ⟨rfl, m5⟩
   have d4' := m5.cell d4
   clear d4 d3 d2 d1 d0 c0 c1
   have Hm5 : Hid (More w w5) := Hm.out.trans m5
   clear m5
   by_cases t2 : 0 ≤ n
   ·by_cases t3 : n < nw
    ·have T : Hid (Wrd log c n) := Hnw.out.2 ⟨t2, t3⟩
     go_wp2
     go_ret
     exact ⟨_, rfl, ⟨fun _ => HP.out.2 ⟨HN.out, Hok.out, Hrgn.out, T.out⟩, fun _ => by first | rfl | (simp <;> omega)⟩, Hm5.out⟩
    ·have T : Hid (nw ≤ n) := (by omega : nw ≤ n)
     go_wp2
     go_ret
     exact ⟨_, rfl, ⟨fun h => by first | (simp at h; done) | (simp at h; omega), fun h => by have h1 := (HP.out.1 h).2.2; have h2 := T.out; have h3 := (Hnw.out.1 h1.2).2; omega⟩, Hm5.out⟩
   ·have T : Hid (n < 0) := (by omega : n < 0)
    go_wp2
    go_ret
    exact ⟨_, rfl, ⟨fun h => by first | (simp at h; done) | (simp at h; omega), fun h => by have h1 := (HP.out.1 h).2.2; have h2 := T.out; have h3 := (Hnw.out.1 h1.2).1; omega⟩, Hm5.out⟩
  | succ q =>
   clear d0 d1 d2 d3 d4 c0 c1
   have hk : k < 3 := by omega
   have hk' : (k : Int) < 3 := by omega
   have hk0 : (0 : Int) ≤ (k : Int) := by omega
   have qg := Hg'.out k hk
   have qf := Hf.out k hk
   obtain ⟨x, hx⟩ : ∃ x, tri 1 0 2 k = x := ⟨_, rfl⟩
   obtain ⟨y, hy⟩ : ∃ y, tri a b c k = y := ⟨_, rfl⟩
   rw [hx] at qg
   rw [hy] at qf
   have HX : Hid (tri 1 0 2 k = x ∧ tri a b c k = y) := ⟨hx, hy⟩
   clear hx hy
   have step : Hid (Fld regs x y → ∀ j, j < k + 1 → Fld regs (tri 1 0 2 j) (tri a b c j)) := by
    intro h j hj
    by_cases e : j = k
    ·subst e; rw [HX.out.1, HX.out.2]; exact h
    ·exact Hok.out j (by omega)
   have back : Hid ((∀ j, j < 3 → Fld regs (tri 1 0 2 j) (tri a b c j)) → Fld regs x y) := by
    intro h
    have := h k hk
    rw [HX.out.1, HX.out.2] at this
    exact this
   by_cases hx0 : x = 0
   ·subst hx0
    by_cases hy0 : y = 0
    ·subst hy0
     go_wp2
     go_roundg q
     case measure => omega
     case rel => exact ⟨k + 1, by omega, by first | rfl | simp, step.out ⟨fun _ => rfl, fun h => by simp at h⟩, rfl⟩
    ·have hy1 : (y != 0) = true := by simp [hy0]
     have Hy : Hid (¬ y = 0) := hy0
     clear hy0
     go_wp2
     go_ret
     exact Says.no (fun h => Hy.out ((back.out (HP.out.1 h).2.1).1 rfl)) Hm.out
   by_cases hx1 : x = 1
   ·subst hx1
    clear hx0
    by_cases hy0 : y < 0
    ·have Hy : Hid (y < 0) := hy0
     go_wp2
     go_ret
     exact Says.no (fun h => by have := ((back.out (HP.out.1 h).2.1).2 rfl).1; have := Hy.out; omega) Hm.out
    by_cases hy1 : regs ≤ y
    ·have Hy : Hid (regs ≤ y) := hy1
     go_wp2
     go_ret
     exact Says.no (fun h => by have := ((back.out (HP.out.1 h).2.1).2 rfl).2; have := Hy.out; omega) Hm.out
    have Hy : Hid (Reg regs y) := ⟨by omega, by omega⟩
    go_wp2
    go_roundg q
    case measure => omega
    case rel => exact ⟨k + 1, by omega, by first | rfl | simp, step.out ⟨fun h => by simp at h, fun _ => Hy.out⟩, rfl⟩
   have Hx : Hid (¬ x = 0 ∧ ¬ x = 1) := ⟨hx0, hx1⟩
   have hx2 : (x == 0) = false := by simp [hx0]
   have hx3 : (x == 1) = false := by simp [hx1]
   clear hx0 hx1
   go_wp2
   go_roundg q
   case measure => omega
   case rel => exact ⟨k + 1, by omega, by first | rfl | simp, step.out ⟨fun h => absurd h Hx.out.1, fun h => absurd h Hx.out.2⟩, rfl⟩

set_option maxRecDepth 8000 in
set_option maxHeartbeats 1000000 in
theorem ins_6 (ra : Option Addr) (rl rc : Nat) (ca : Option Addr) (cl cc : Nat) (a b c n regs : Int) (w : World) (rb ro : Nat) (log : Nat → Int) (sec : Nat → Bool) (hra : 0 < rl → ra = some ⟨rb, ro, none⟩) (hr : RegsAt w rb ro rl log sec) (hok : RegionsOk rl log) (P : Prop) (HP : Hid (P ↔ (True ∧ (∀ j, j < 3 → Fld regs (tri 1 0 2 j) (tri a b c j)) ∧ Rgn rl c ∧ Wrd log c n))) :
  Calls Try.prog 53 #[.agg #[.slice ra rl rc, .slice ca cl cc], .agg #[.int .i64 6, .int .i64 a, .int .i64 b, .int .i64 c, .int .i64 n], .int .i64 regs] w (Says P w) := by
 have Hr : Hid ((0 < rl → ra = some ⟨rb, ro, none⟩) ∧ RegsAt w rb ro rl log sec ∧ RegionsOk rl log) := ⟨hra, hr, hok⟩
 clear hra hr hok
 go_enter Try.func53, Try.ntmps53
 go_wp2_with (fail)
 refine (shape_6 _).mono ?_
 rintro e w1 ⟨g, rfl, hg, m1⟩
 obtain ⟨⟨c0, c1⟩, d0, d1, d2, d3, d4⟩ := boxes2 m1
 have Hg : Hid (∀ j, j < 3 → w1.cell? ⟨g, j, none⟩ = some (.int .i64 (tri 1 0 2 j))) := hg
 have Hm1 : Hid (More w w1) := (((More.refl _).alloc _ _).alloc _ _).trans m1
 clear hg m1
 have HN : Hid True := trivial
 go_wp2
 obtain ⟨W, HW⟩ : ∃ W : World, Hid (W = w1.alloc (.cells #[.int .i64 a, .int .i64 b, .int .i64 c] 3)) := ⟨_, rfl⟩
 have Hm1W : Hid (More w1 W) := HW.out ▸ (More.refl _).alloc _ _
 have Hm : Hid (More w W) := Hm1.out.trans Hm1W.out
 have Hf : Hid (∀ j, j < 3 → W.cell? ⟨w1.heap.size, j, none⟩ = some (.int .i64 (tri a b c j))) := by rw [HW.out]; exact tri_cells (by go_simp) (by go_simp) (by go_simp)
 have Hg' : Hid (∀ j, j < 3 → W.cell? ⟨g, j, none⟩ = some (.int .i64 (tri 1 0 2 j))) := fun j hj => Hm1W.out.cell (Hg.out j hj)
 clear Hg
 replace c0 := Hm1W.out.cell c0
 replace c1 := Hm1W.out.cell c1
 replace d0 := Hm1W.out.cell d0
 replace d1 := Hm1W.out.cell d1
 replace d2 := Hm1W.out.cell d2
 replace d3 := Hm1W.out.cell d3
 replace d4 := Hm1W.out.cell d4
 go_loopg [11] 3 (fun q i wr => ∃ k : Nat, k + q = 3 ∧ i = .int .i64 k ∧ (∀ j, j < k → Fld regs (tri 1 0 2 j) (tri a b c j)) ∧ wr = W)
 case atStart => exact ⟨0, by omega, rfl, fun j hj => by omega, HW.out.symm⟩
 case round =>
  obtain ⟨k, hkg, rfl, hok, rfl⟩ := hrel
  have Hok : Hid (∀ j, j < k → Fld regs (tri 1 0 2 j) (tri a b c j)) := hok
  clear hok
  cases gk with
  | zero =>
   obtain rfl : k = 3 := by omega
   by_cases t0 : c < 0
   ·have T : Hid (c < 0) := t0
    go_wp2
    go_ret
    exact ⟨_, rfl, ⟨fun h => by first | (simp at h; done) | (simp at h; omega), fun h => by have h1 := (HP.out.1 h).2.2; have h2 := T.out; have h3 := h1.1.1; omega⟩, Hm.out⟩
   by_cases t1 : (rl : Int) ≤ c
   ·have T : Hid ((rl : Int) ≤ c) := t1
    go_wp2
    go_ret
    exact ⟨_, rfl, ⟨fun h => by first | (simp at h; done) | (simp at h; omega), fun h => by have h1 := (HP.out.1 h).2.2; have h2 := T.out; have h3 := h1.1.2; omega⟩, Hm.out⟩
   have hk : c.toNat < rl := by omega
   have t0' : 0 ≤ c := by omega
   have t1' : c < (rl : Int) := by omega
   have Hrgn : Hid (Rgn rl c) := ⟨t0', t1'⟩
   obtain rfl := Hr.out.1 (by omega)
   have q0 := ((Hr.out.2.1.more Hm.out) c.toNat hk).1
   have q1 := ((Hr.out.2.1.more Hm.out) c.toNat hk).2
   have Hlog : Hid (0 ≤ log c.toNat ∧ log c.toNat ≤ 6) := Hr.out.2.2.2 c.toNat hk
   obtain ⟨lk, hlk⟩ : ∃ x, log c.toNat = x := ⟨_, rfl⟩
   rw [hlk] at q0 Hlog
   have Hlk : Hid (log c.toNat = lk) := hlk
   clear hlk
   go_wp2_with (fail)
   obtain ⟨nw, hnw⟩ : ∃ x, wordsI lk = x := ⟨_, rfl⟩
   refine ((ref_words lk Hlog.out.1 Hlog.out.2 (sec c.toNat) _)).mono ?_
   rw [hnw]
   have Hnw : Hid (Wrd log c n ↔ (0 ≤ n ∧ n < nw)) := by unfold Wrd; rw [Hlk.out, ← hnw]; exact Iff.rfl
   clear hnw q0 q1
   rintro e w5 ⟨rfl, m5⟩
   have d4' := m5.cell d4
   clear d4 d3 d2 d1 d0 c0 c1
   have Hm5 : Hid (More w w5) := Hm.out.trans m5
   clear m5
   by_cases t2 : 0 ≤ n
   ·by_cases t3 : n < nw
    ·have T : Hid (Wrd log c n) := Hnw.out.2 ⟨t2, t3⟩
     go_wp2
     go_ret
     exact ⟨_, rfl, ⟨fun _ => HP.out.2 ⟨HN.out, Hok.out, Hrgn.out, T.out⟩, fun _ => by first | rfl | (simp <;> omega)⟩, Hm5.out⟩
    ·have T : Hid (nw ≤ n) := (by omega : nw ≤ n)
     go_wp2
     go_ret
     exact ⟨_, rfl, ⟨fun h => by first | (simp at h; done) | (simp at h; omega), fun h => by have h1 := (HP.out.1 h).2.2; have h2 := T.out; have h3 := (Hnw.out.1 h1.2).2; omega⟩, Hm5.out⟩
   ·have T : Hid (n < 0) := (by omega : n < 0)
    go_wp2
    go_ret
    exact ⟨_, rfl, ⟨fun h => by first | (simp at h; done) | (simp at h; omega), fun h => by have h1 := (HP.out.1 h).2.2; have h2 := T.out; have h3 := (Hnw.out.1 h1.2).1; omega⟩, Hm5.out⟩
  | succ q =>
   clear d0 d1 d2 d3 d4 c0 c1
   have hk : k < 3 := by omega
   have hk' : (k : Int) < 3 := by omega
   have hk0 : (0 : Int) ≤ (k : Int) := by omega
   have qg := Hg'.out k hk
   have qf := Hf.out k hk
   obtain ⟨x, hx⟩ : ∃ x, tri 1 0 2 k = x := ⟨_, rfl⟩
   obtain ⟨y, hy⟩ : ∃ y, tri a b c k = y := ⟨_, rfl⟩
   rw [hx] at qg
   rw [hy] at qf
   have HX : Hid (tri 1 0 2 k = x ∧ tri a b c k = y) := ⟨hx, hy⟩
   clear hx hy
   have step : Hid (Fld regs x y → ∀ j, j < k + 1 → Fld regs (tri 1 0 2 j) (tri a b c j)) := by
    intro h j hj
    by_cases e : j = k
    ·subst e; rw [HX.out.1, HX.out.2]; exact h
    ·exact Hok.out j (by omega)
   have back : Hid ((∀ j, j < 3 → Fld regs (tri 1 0 2 j) (tri a b c j)) → Fld regs x y) := by
    intro h
    have := h k hk
    rw [HX.out.1, HX.out.2] at this
    exact this
   by_cases hx0 : x = 0
   ·subst hx0
    by_cases hy0 : y = 0
    ·subst hy0
     go_wp2
     go_roundg q
     case measure => omega
     case rel => exact ⟨k + 1, by omega, by first | rfl | simp, step.out ⟨fun _ => rfl, fun h => by simp at h⟩, rfl⟩
    ·have hy1 : (y != 0) = true := by simp [hy0]
     have Hy : Hid (¬ y = 0) := hy0
     clear hy0
     go_wp2
     go_ret
     exact Says.no (fun h => Hy.out ((back.out (HP.out.1 h).2.1).1 rfl)) Hm.out
   by_cases hx1 : x = 1
   ·subst hx1
    clear hx0
    by_cases hy0 : y < 0
    ·have Hy : Hid (y < 0) := hy0
     go_wp2
     go_ret
     exact Says.no (fun h => by have := ((back.out (HP.out.1 h).2.1).2 rfl).1; have := Hy.out; omega) Hm.out
    by_cases hy1 : regs ≤ y
    ·have Hy : Hid (regs ≤ y) := hy1
     go_wp2
     go_ret
     exact Says.no (fun h => by have := ((back.out (HP.out.1 h).2.1).2 rfl).2; have := Hy.out; omega) Hm.out
    have Hy : Hid (Reg regs y) := ⟨by omega, by omega⟩
    go_wp2
    go_roundg q
    case measure => omega
    case rel => exact ⟨k + 1, by omega, by first | rfl | simp, step.out ⟨fun h => by simp at h, fun _ => Hy.out⟩, rfl⟩
   have Hx : Hid (¬ x = 0 ∧ ¬ x = 1) := ⟨hx0, hx1⟩
   have hx2 : (x == 0) = false := by simp [hx0]
   have hx3 : (x == 1) = false := by simp [hx1]
   clear hx0 hx1
   go_wp2
   go_roundg q
   case measure => omega
   case rel => exact ⟨k + 1, by omega, by first | rfl | simp, step.out ⟨fun h => absurd h Hx.out.1, fun h => absurd h Hx.out.2⟩, rfl⟩

set_option maxRecDepth 8000 in
set_option maxHeartbeats 1000000 in
theorem ins_7 (ra : Option Addr) (rl rc : Nat) (ca : Option Addr) (cl cc : Nat) (a b c n regs : Int) (w : World) (P : Prop) (HP : Hid (P ↔ (True ∧ (∀ j, j < 3 → Fld regs (tri 0 0 0 j) (tri a b c j)) ∧ Plc cl n))) :
  Calls Try.prog 53 #[.agg #[.slice ra rl rc, .slice ca cl cc], .agg #[.int .i64 7, .int .i64 a, .int .i64 b, .int .i64 c, .int .i64 n], .int .i64 regs] w (Says P w) := by
 go_enter Try.func53, Try.ntmps53
 go_wp2_with (fail)
 refine (shape_7 _).mono ?_
 rintro e w1 ⟨g, rfl, hg, m1⟩
 obtain ⟨⟨c0, c1⟩, d0, d1, d2, d3, d4⟩ := boxes2 m1
 have Hg : Hid (∀ j, j < 3 → w1.cell? ⟨g, j, none⟩ = some (.int .i64 (tri 0 0 0 j))) := hg
 have Hm1 : Hid (More w w1) := (((More.refl _).alloc _ _).alloc _ _).trans m1
 clear hg m1
 have HN : Hid True := trivial
 go_wp2
 obtain ⟨W, HW⟩ : ∃ W : World, Hid (W = w1.alloc (.cells #[.int .i64 a, .int .i64 b, .int .i64 c] 3)) := ⟨_, rfl⟩
 have Hm1W : Hid (More w1 W) := HW.out ▸ (More.refl _).alloc _ _
 have Hm : Hid (More w W) := Hm1.out.trans Hm1W.out
 have Hf : Hid (∀ j, j < 3 → W.cell? ⟨w1.heap.size, j, none⟩ = some (.int .i64 (tri a b c j))) := by rw [HW.out]; exact tri_cells (by go_simp) (by go_simp) (by go_simp)
 have Hg' : Hid (∀ j, j < 3 → W.cell? ⟨g, j, none⟩ = some (.int .i64 (tri 0 0 0 j))) := fun j hj => Hm1W.out.cell (Hg.out j hj)
 clear Hg
 replace c0 := Hm1W.out.cell c0
 replace c1 := Hm1W.out.cell c1
 replace d0 := Hm1W.out.cell d0
 replace d1 := Hm1W.out.cell d1
 replace d2 := Hm1W.out.cell d2
 replace d3 := Hm1W.out.cell d3
 replace d4 := Hm1W.out.cell d4
 go_loopg [11] 3 (fun q i wr => ∃ k : Nat, k + q = 3 ∧ i = .int .i64 k ∧ (∀ j, j < k → Fld regs (tri 0 0 0 j) (tri a b c j)) ∧ wr = W)
 case atStart => exact ⟨0, by omega, rfl, fun j hj => by omega, HW.out.symm⟩
 case round =>
  obtain ⟨k, hkg, rfl, hok, rfl⟩ := hrel
  have Hok : Hid (∀ j, j < k → Fld regs (tri 0 0 0 j) (tri a b c j)) := hok
  clear hok
  cases gk with
  | zero =>
   obtain rfl : k = 3 := by omega
   by_cases t0 : 0 ≤ n
   ·by_cases t1 : n < (cl : Int)
    ·have T : Hid (0 ≤ n ∧ n < (cl : Int)) := ⟨t0, t1⟩
     go_wp2
     go_ret
     exact ⟨_, rfl, ⟨fun _ => HP.out.2 ⟨HN.out, Hok.out, T.out⟩, fun _ => by first | rfl | (simp <;> omega)⟩, Hm.out⟩
    ·have T : Hid (¬ n < (cl : Int)) := t1
     go_wp2
     go_ret
     exact ⟨_, rfl, ⟨fun h => by first | (simp at h; done) | (simp at h; omega), fun h => by have h1 := (HP.out.1 h).2.2; have h2 := T.out; have h3 := h1.2; omega⟩, Hm.out⟩
   ·have T : Hid (¬ 0 ≤ n) := t0
    go_wp2
    go_ret
    exact ⟨_, rfl, ⟨fun h => by first | (simp at h; done) | (simp at h; omega), fun h => by have h1 := (HP.out.1 h).2.2; have h2 := T.out; have h3 := h1.1; omega⟩, Hm.out⟩
  | succ q =>
   clear d0 d1 d2 d3 d4 c0 c1
   have hk : k < 3 := by omega
   have hk' : (k : Int) < 3 := by omega
   have hk0 : (0 : Int) ≤ (k : Int) := by omega
   have qg := Hg'.out k hk
   have qf := Hf.out k hk
   obtain ⟨x, hx⟩ : ∃ x, tri 0 0 0 k = x := ⟨_, rfl⟩
   obtain ⟨y, hy⟩ : ∃ y, tri a b c k = y := ⟨_, rfl⟩
   rw [hx] at qg
   rw [hy] at qf
   have HX : Hid (tri 0 0 0 k = x ∧ tri a b c k = y) := ⟨hx, hy⟩
   clear hx hy
   have step : Hid (Fld regs x y → ∀ j, j < k + 1 → Fld regs (tri 0 0 0 j) (tri a b c j)) := by
    intro h j hj
    by_cases e : j = k
    ·subst e; rw [HX.out.1, HX.out.2]; exact h
    ·exact Hok.out j (by omega)
   have back : Hid ((∀ j, j < 3 → Fld regs (tri 0 0 0 j) (tri a b c j)) → Fld regs x y) := by
    intro h
    have := h k hk
    rw [HX.out.1, HX.out.2] at this
    exact this
   by_cases hx0 : x = 0
   ·subst hx0
    by_cases hy0 : y = 0
    ·subst hy0
     go_wp2
     go_roundg q
     case measure => omega
     case rel => exact ⟨k + 1, by omega, by first | rfl | simp, step.out ⟨fun _ => rfl, fun h => by simp at h⟩, rfl⟩
    ·have hy1 : (y != 0) = true := by simp [hy0]
     have Hy : Hid (¬ y = 0) := hy0
     clear hy0
     go_wp2
     go_ret
     exact Says.no (fun h => Hy.out ((back.out (HP.out.1 h).2.1).1 rfl)) Hm.out
   by_cases hx1 : x = 1
   ·subst hx1
    clear hx0
    by_cases hy0 : y < 0
    ·have Hy : Hid (y < 0) := hy0
     go_wp2
     go_ret
     exact Says.no (fun h => by have := ((back.out (HP.out.1 h).2.1).2 rfl).1; have := Hy.out; omega) Hm.out
    by_cases hy1 : regs ≤ y
    ·have Hy : Hid (regs ≤ y) := hy1
     go_wp2
     go_ret
     exact Says.no (fun h => by have := ((back.out (HP.out.1 h).2.1).2 rfl).2; have := Hy.out; omega) Hm.out
    have Hy : Hid (Reg regs y) := ⟨by omega, by omega⟩
    go_wp2
    go_roundg q
    case measure => omega
    case rel => exact ⟨k + 1, by omega, by first | rfl | simp, step.out ⟨fun h => by simp at h, fun _ => Hy.out⟩, rfl⟩
   have Hx : Hid (¬ x = 0 ∧ ¬ x = 1) := ⟨hx0, hx1⟩
   have hx2 : (x == 0) = false := by simp [hx0]
   have hx3 : (x == 1) = false := by simp [hx1]
   clear hx0 hx1
   go_wp2
   go_roundg q
   case measure => omega
   case rel => exact ⟨k + 1, by omega, by first | rfl | simp, step.out ⟨fun h => absurd h Hx.out.1, fun h => absurd h Hx.out.2⟩, rfl⟩
set_option maxRecDepth 8000 in
set_option maxHeartbeats 1000000 in
theorem ins_8 (ra : Option Addr) (rl rc : Nat) (ca : Option Addr) (cl cc : Nat) (a b c n regs : Int) (w : World) (P : Prop) (HP : Hid (P ↔ (True ∧ (∀ j, j < 3 → Fld regs (tri 1 1 2 j) (tri a b c j)) ∧ (1 ≤ c ∧ c ≤ 4) ∧ Plc cl n))) :
  Calls Try.prog 53 #[.agg #[.slice ra rl rc, .slice ca cl cc], .agg #[.int .i64 8, .int .i64 a, .int .i64 b, .int .i64 c, .int .i64 n], .int .i64 regs] w (Says P w) := by
 go_enter Try.func53, Try.ntmps53
 go_wp2_with (fail)
 refine (shape_8 _).mono ?_
 rintro e w1 ⟨g, rfl, hg, m1⟩
 obtain ⟨⟨c0, c1⟩, d0, d1, d2, d3, d4⟩ := boxes2 m1
 have Hg : Hid (∀ j, j < 3 → w1.cell? ⟨g, j, none⟩ = some (.int .i64 (tri 1 1 2 j))) := hg
 have Hm1 : Hid (More w w1) := (((More.refl _).alloc _ _).alloc _ _).trans m1
 clear hg m1
 have HN : Hid True := trivial
 go_wp2
 obtain ⟨W, HW⟩ : ∃ W : World, Hid (W = w1.alloc (.cells #[.int .i64 a, .int .i64 b, .int .i64 c] 3)) := ⟨_, rfl⟩
 have Hm1W : Hid (More w1 W) := HW.out ▸ (More.refl _).alloc _ _
 have Hm : Hid (More w W) := Hm1.out.trans Hm1W.out
 have Hf : Hid (∀ j, j < 3 → W.cell? ⟨w1.heap.size, j, none⟩ = some (.int .i64 (tri a b c j))) := by rw [HW.out]; exact tri_cells (by go_simp) (by go_simp) (by go_simp)
 have Hg' : Hid (∀ j, j < 3 → W.cell? ⟨g, j, none⟩ = some (.int .i64 (tri 1 1 2 j))) := fun j hj => Hm1W.out.cell (Hg.out j hj)
 clear Hg
 replace c0 := Hm1W.out.cell c0
 replace c1 := Hm1W.out.cell c1
 replace d0 := Hm1W.out.cell d0
 replace d1 := Hm1W.out.cell d1
 replace d2 := Hm1W.out.cell d2
 replace d3 := Hm1W.out.cell d3
 replace d4 := Hm1W.out.cell d4
 go_loopg [11] 3 (fun q i wr => ∃ k : Nat, k + q = 3 ∧ i = .int .i64 k ∧ (∀ j, j < k → Fld regs (tri 1 1 2 j) (tri a b c j)) ∧ wr = W)
 case atStart => exact ⟨0, by omega, rfl, fun j hj => by omega, HW.out.symm⟩
 case round =>
  obtain ⟨k, hkg, rfl, hok, rfl⟩ := hrel
  have Hok : Hid (∀ j, j < k → Fld regs (tri 1 1 2 j) (tri a b c j)) := hok
  clear hok
  cases gk with
  | zero =>
   obtain rfl : k = 3 := by omega
   by_cases t0 : 1 ≤ c
   rotate_left
   ·have T : Hid (¬ 1 ≤ c) := t0
    go_wp2
    go_ret
    exact ⟨_, rfl, ⟨fun h => by first | (simp at h; done) | (simp at h; omega), fun h => by have h1 := (HP.out.1 h).2.2; have h2 := T.out; have h3 := h1.1.1; omega⟩, Hm.out⟩
   by_cases t1 : c ≤ 4
   rotate_left
   ·have T : Hid (¬ c ≤ 4) := t1
    go_wp2
    go_ret
    exact ⟨_, rfl, ⟨fun h => by first | (simp at h; done) | (simp at h; omega), fun h => by have h1 := (HP.out.1 h).2.2; have h2 := T.out; have h3 := h1.1.2; omega⟩, Hm.out⟩
   by_cases t2 : 0 ≤ n
   rotate_left
   ·have T : Hid (¬ 0 ≤ n) := t2
    go_wp2
    go_ret
    exact ⟨_, rfl, ⟨fun h => by first | (simp at h; done) | (simp at h; omega), fun h => by have h1 := (HP.out.1 h).2.2; have h2 := T.out; have h3 := h1.2.1; omega⟩, Hm.out⟩
   by_cases t3 : n < (cl : Int)
   rotate_left
   ·have T : Hid (¬ n < (cl : Int)) := t3
    go_wp2
    go_ret
    exact ⟨_, rfl, ⟨fun h => by first | (simp at h; done) | (simp at h; omega), fun h => by have h1 := (HP.out.1 h).2.2; have h2 := T.out; have h3 := h1.2.2; omega⟩, Hm.out⟩
   have T : Hid ((1 ≤ c ∧ c ≤ 4) ∧ 0 ≤ n ∧ n < (cl : Int)) := ⟨⟨t0, t1⟩, t2, t3⟩
   go_wp2
   go_ret
   exact ⟨_, rfl, ⟨fun _ => HP.out.2 ⟨HN.out, Hok.out, T.out⟩, fun _ => by first | rfl | (simp <;> omega)⟩, Hm.out⟩
  | succ q =>
   clear d0 d1 d2 d3 d4 c0 c1
   have hk : k < 3 := by omega
   have hk' : (k : Int) < 3 := by omega
   have hk0 : (0 : Int) ≤ (k : Int) := by omega
   have qg := Hg'.out k hk
   have qf := Hf.out k hk
   obtain ⟨x, hx⟩ : ∃ x, tri 1 1 2 k = x := ⟨_, rfl⟩
   obtain ⟨y, hy⟩ : ∃ y, tri a b c k = y := ⟨_, rfl⟩
   rw [hx] at qg
   rw [hy] at qf
   have HX : Hid (tri 1 1 2 k = x ∧ tri a b c k = y) := ⟨hx, hy⟩
   clear hx hy
   have step : Hid (Fld regs x y → ∀ j, j < k + 1 → Fld regs (tri 1 1 2 j) (tri a b c j)) := by
    intro h j hj
    by_cases e : j = k
    ·subst e; rw [HX.out.1, HX.out.2]; exact h
    ·exact Hok.out j (by omega)
   have back : Hid ((∀ j, j < 3 → Fld regs (tri 1 1 2 j) (tri a b c j)) → Fld regs x y) := by
    intro h
    have := h k hk
    rw [HX.out.1, HX.out.2] at this
    exact this
   by_cases hx0 : x = 0
   ·subst hx0
    by_cases hy0 : y = 0
    ·subst hy0
     go_wp2
     go_roundg q
     case measure => omega
     case rel => exact ⟨k + 1, by omega, by first | rfl | simp, step.out ⟨fun _ => rfl, fun h => by simp at h⟩, rfl⟩
    ·have hy1 : (y != 0) = true := by simp [hy0]
     have Hy : Hid (¬ y = 0) := hy0
     clear hy0
     go_wp2
     go_ret
     exact Says.no (fun h => Hy.out ((back.out (HP.out.1 h).2.1).1 rfl)) Hm.out
   by_cases hx1 : x = 1
   ·subst hx1
    clear hx0
    by_cases hy0 : y < 0
    ·have Hy : Hid (y < 0) := hy0
     go_wp2
     go_ret
     exact Says.no (fun h => by have := ((back.out (HP.out.1 h).2.1).2 rfl).1; have := Hy.out; omega) Hm.out
    by_cases hy1 : regs ≤ y
    ·have Hy : Hid (regs ≤ y) := hy1
     go_wp2
     go_ret
     exact Says.no (fun h => by have := ((back.out (HP.out.1 h).2.1).2 rfl).2; have := Hy.out; omega) Hm.out
    have Hy : Hid (Reg regs y) := ⟨by omega, by omega⟩
    go_wp2
    go_roundg q
    case measure => omega
    case rel => exact ⟨k + 1, by omega, by first | rfl | simp, step.out ⟨fun h => by simp at h, fun _ => Hy.out⟩, rfl⟩
   have Hx : Hid (¬ x = 0 ∧ ¬ x = 1) := ⟨hx0, hx1⟩
   have hx2 : (x == 0) = false := by simp [hx0]
   have hx3 : (x == 1) = false := by simp [hx1]
   clear hx0 hx1
   go_wp2
   go_roundg q
   case measure => omega
   case rel => exact ⟨k + 1, by omega, by first | rfl | simp, step.out ⟨fun h => absurd h Hx.out.1, fun h => absurd h Hx.out.2⟩, rfl⟩

set_option maxRecDepth 8000 in
set_option maxHeartbeats 1000000 in
theorem ins_10 (ra : Option Addr) (rl rc : Nat) (ca : Option Addr) (cl cc : Nat) (a b c n regs : Int) (w : World) (P : Prop) (HP : Hid (P ↔ (True ∧ (∀ j, j < 3 → Fld regs (tri 1 1 0 j) (tri a b c j)) ∧ True))) :
  Calls Try.prog 53 #[.agg #[.slice ra rl rc, .slice ca cl cc], .agg #[.int .i64 10, .int .i64 a, .int .i64 b, .int .i64 c, .int .i64 n], .int .i64 regs] w (Says P w) := by
 go_enter Try.func53, Try.ntmps53
 go_wp2_with (fail)
 refine (shape_10 _).mono ?_
 rintro e w1 ⟨g, rfl, hg, m1⟩
 obtain ⟨⟨c0, c1⟩, d0, d1, d2, d3, d4⟩ := boxes2 m1
 have Hg : Hid (∀ j, j < 3 → w1.cell? ⟨g, j, none⟩ = some (.int .i64 (tri 1 1 0 j))) := hg
 have Hm1 : Hid (More w w1) := (((More.refl _).alloc _ _).alloc _ _).trans m1
 clear hg m1
 have HN : Hid True := trivial
 go_wp2
 obtain ⟨W, HW⟩ : ∃ W : World, Hid (W = w1.alloc (.cells #[.int .i64 a, .int .i64 b, .int .i64 c] 3)) := ⟨_, rfl⟩
 have Hm1W : Hid (More w1 W) := HW.out ▸ (More.refl _).alloc _ _
 have Hm : Hid (More w W) := Hm1.out.trans Hm1W.out
 have Hf : Hid (∀ j, j < 3 → W.cell? ⟨w1.heap.size, j, none⟩ = some (.int .i64 (tri a b c j))) := by rw [HW.out]; exact tri_cells (by go_simp) (by go_simp) (by go_simp)
 have Hg' : Hid (∀ j, j < 3 → W.cell? ⟨g, j, none⟩ = some (.int .i64 (tri 1 1 0 j))) := fun j hj => Hm1W.out.cell (Hg.out j hj)
 clear Hg
 replace c0 := Hm1W.out.cell c0
 replace c1 := Hm1W.out.cell c1
 replace d0 := Hm1W.out.cell d0
 replace d1 := Hm1W.out.cell d1
 replace d2 := Hm1W.out.cell d2
 replace d3 := Hm1W.out.cell d3
 replace d4 := Hm1W.out.cell d4
 go_loopg [11] 3 (fun q i wr => ∃ k : Nat, k + q = 3 ∧ i = .int .i64 k ∧ (∀ j, j < k → Fld regs (tri 1 1 0 j) (tri a b c j)) ∧ wr = W)
 case atStart => exact ⟨0, by omega, rfl, fun j hj => by omega, HW.out.symm⟩
 case round =>
  obtain ⟨k, hkg, rfl, hok, rfl⟩ := hrel
  have Hok : Hid (∀ j, j < k → Fld regs (tri 1 1 0 j) (tri a b c j)) := hok
  clear hok
  cases gk with
  | zero =>
   obtain rfl : k = 3 := by omega
   go_wp2
   go_ret
   exact Says.yes (HP.out.2 ⟨HN.out, Hok.out, trivial⟩) Hm.out
  | succ q =>
   clear d0 d1 d2 d3 d4 c0 c1
   have hk : k < 3 := by omega
   have hk' : (k : Int) < 3 := by omega
   have hk0 : (0 : Int) ≤ (k : Int) := by omega
   have qg := Hg'.out k hk
   have qf := Hf.out k hk
   obtain ⟨x, hx⟩ : ∃ x, tri 1 1 0 k = x := ⟨_, rfl⟩
   obtain ⟨y, hy⟩ : ∃ y, tri a b c k = y := ⟨_, rfl⟩
   rw [hx] at qg
   rw [hy] at qf
   have HX : Hid (tri 1 1 0 k = x ∧ tri a b c k = y) := ⟨hx, hy⟩
   clear hx hy
   have step : Hid (Fld regs x y → ∀ j, j < k + 1 → Fld regs (tri 1 1 0 j) (tri a b c j)) := by
    intro h j hj
    by_cases e : j = k
    ·subst e; rw [HX.out.1, HX.out.2]; exact h
    ·exact Hok.out j (by omega)
   have back : Hid ((∀ j, j < 3 → Fld regs (tri 1 1 0 j) (tri a b c j)) → Fld regs x y) := by
    intro h
    have := h k hk
    rw [HX.out.1, HX.out.2] at this
    exact this
   by_cases hx0 : x = 0
   ·subst hx0
    by_cases hy0 : y = 0
    ·subst hy0
     go_wp2
     go_roundg q
     case measure => omega
     case rel => exact ⟨k + 1, by omega, by first | rfl | simp, step.out ⟨fun _ => rfl, fun h => by simp at h⟩, rfl⟩
    ·have hy1 : (y != 0) = true := by simp [hy0]
     have Hy : Hid (¬ y = 0) := hy0
     clear hy0
     go_wp2
     go_ret
     exact Says.no (fun h => Hy.out ((back.out (HP.out.1 h).2.1).1 rfl)) Hm.out
   by_cases hx1 : x = 1
   ·subst hx1
    clear hx0
    by_cases hy0 : y < 0
    ·have Hy : Hid (y < 0) := hy0
     go_wp2
     go_ret
     exact Says.no (fun h => by have := ((back.out (HP.out.1 h).2.1).2 rfl).1; have := Hy.out; omega) Hm.out
    by_cases hy1 : regs ≤ y
    ·have Hy : Hid (regs ≤ y) := hy1
     go_wp2
     go_ret
     exact Says.no (fun h => by have := ((back.out (HP.out.1 h).2.1).2 rfl).2; have := Hy.out; omega) Hm.out
    have Hy : Hid (Reg regs y) := ⟨by omega, by omega⟩
    go_wp2
    go_roundg q
    case measure => omega
    case rel => exact ⟨k + 1, by omega, by first | rfl | simp, step.out ⟨fun h => by simp at h, fun _ => Hy.out⟩, rfl⟩
   have Hx : Hid (¬ x = 0 ∧ ¬ x = 1) := ⟨hx0, hx1⟩
   have hx2 : (x == 0) = false := by simp [hx0]
   have hx3 : (x == 1) = false := by simp [hx1]
   clear hx0 hx1
   go_wp2
   go_roundg q
   case measure => omega
   case rel => exact ⟨k + 1, by omega, by first | rfl | simp, step.out ⟨fun h => absurd h Hx.out.1, fun h => absurd h Hx.out.2⟩, rfl⟩

set_option maxRecDepth 8000 in
set_option maxHeartbeats 1000000 in
theorem ins_11 (ra : Option Addr) (rl rc : Nat) (ca : Option Addr) (cl cc : Nat) (a b c n regs : Int) (w : World) (P : Prop) (HP : Hid (P ↔ (True ∧ (∀ j, j < 3 → Fld regs (tri 1 0 0 j) (tri a b c j)) ∧ 1 ≤ n ∧ n ≤ 64))) :
  Calls Try.prog 53 #[.agg #[.slice ra rl rc, .slice ca cl cc], .agg #[.int .i64 11, .int .i64 a, .int .i64 b, .int .i64 c, .int .i64 n], .int .i64 regs] w (Says P w) := by
 go_enter Try.func53, Try.ntmps53
 go_wp2_with (fail)
 refine (shape_11 _).mono ?_
 rintro e w1 ⟨g, rfl, hg, m1⟩
 obtain ⟨⟨c0, c1⟩, d0, d1, d2, d3, d4⟩ := boxes2 m1
 have Hg : Hid (∀ j, j < 3 → w1.cell? ⟨g, j, none⟩ = some (.int .i64 (tri 1 0 0 j))) := hg
 have Hm1 : Hid (More w w1) := (((More.refl _).alloc _ _).alloc _ _).trans m1
 clear hg m1
 have HN : Hid True := trivial
 go_wp2
 obtain ⟨W, HW⟩ : ∃ W : World, Hid (W = w1.alloc (.cells #[.int .i64 a, .int .i64 b, .int .i64 c] 3)) := ⟨_, rfl⟩
 have Hm1W : Hid (More w1 W) := HW.out ▸ (More.refl _).alloc _ _
 have Hm : Hid (More w W) := Hm1.out.trans Hm1W.out
 have Hf : Hid (∀ j, j < 3 → W.cell? ⟨w1.heap.size, j, none⟩ = some (.int .i64 (tri a b c j))) := by rw [HW.out]; exact tri_cells (by go_simp) (by go_simp) (by go_simp)
 have Hg' : Hid (∀ j, j < 3 → W.cell? ⟨g, j, none⟩ = some (.int .i64 (tri 1 0 0 j))) := fun j hj => Hm1W.out.cell (Hg.out j hj)
 clear Hg
 replace c0 := Hm1W.out.cell c0
 replace c1 := Hm1W.out.cell c1
 replace d0 := Hm1W.out.cell d0
 replace d1 := Hm1W.out.cell d1
 replace d2 := Hm1W.out.cell d2
 replace d3 := Hm1W.out.cell d3
 replace d4 := Hm1W.out.cell d4
 go_loopg [11] 3 (fun q i wr => ∃ k : Nat, k + q = 3 ∧ i = .int .i64 k ∧ (∀ j, j < k → Fld regs (tri 1 0 0 j) (tri a b c j)) ∧ wr = W)
 case atStart => exact ⟨0, by omega, rfl, fun j hj => by omega, HW.out.symm⟩
 case round =>
  obtain ⟨k, hkg, rfl, hok, rfl⟩ := hrel
  have Hok : Hid (∀ j, j < k → Fld regs (tri 1 0 0 j) (tri a b c j)) := hok
  clear hok
  cases gk with
  | zero =>
   obtain rfl : k = 3 := by omega
   by_cases t0 : 1 ≤ n
   ·by_cases t1 : n ≤ 64
    ·have T : Hid (1 ≤ n ∧ n ≤ 64) := ⟨t0, t1⟩
     go_wp2
     go_ret
     exact ⟨_, rfl, ⟨fun _ => HP.out.2 ⟨HN.out, Hok.out, T.out⟩, fun _ => by first | rfl | (simp <;> omega)⟩, Hm.out⟩
    ·have T : Hid (¬ n ≤ 64) := t1
     go_wp2
     go_ret
     exact ⟨_, rfl, ⟨fun h => by first | (simp at h; done) | (simp at h; omega), fun h => by have h1 := (HP.out.1 h).2.2; have h2 := T.out; have h3 := h1.2; omega⟩, Hm.out⟩
   ·have T : Hid (¬ 1 ≤ n) := t0
    go_wp2
    go_ret
    exact ⟨_, rfl, ⟨fun h => by first | (simp at h; done) | (simp at h; omega), fun h => by have h1 := (HP.out.1 h).2.2; have h2 := T.out; have h3 := h1.1; omega⟩, Hm.out⟩
  | succ q =>
   clear d0 d1 d2 d3 d4 c0 c1
   have hk : k < 3 := by omega
   have hk' : (k : Int) < 3 := by omega
   have hk0 : (0 : Int) ≤ (k : Int) := by omega
   have qg := Hg'.out k hk
   have qf := Hf.out k hk
   obtain ⟨x, hx⟩ : ∃ x, tri 1 0 0 k = x := ⟨_, rfl⟩
   obtain ⟨y, hy⟩ : ∃ y, tri a b c k = y := ⟨_, rfl⟩
   rw [hx] at qg
   rw [hy] at qf
   have HX : Hid (tri 1 0 0 k = x ∧ tri a b c k = y) := ⟨hx, hy⟩
   clear hx hy
   have step : Hid (Fld regs x y → ∀ j, j < k + 1 → Fld regs (tri 1 0 0 j) (tri a b c j)) := by
    intro h j hj
    by_cases e : j = k
    ·subst e; rw [HX.out.1, HX.out.2]; exact h
    ·exact Hok.out j (by omega)
   have back : Hid ((∀ j, j < 3 → Fld regs (tri 1 0 0 j) (tri a b c j)) → Fld regs x y) := by
    intro h
    have := h k hk
    rw [HX.out.1, HX.out.2] at this
    exact this
   by_cases hx0 : x = 0
   ·subst hx0
    by_cases hy0 : y = 0
    ·subst hy0
     go_wp2
     go_roundg q
     case measure => omega
     case rel => exact ⟨k + 1, by omega, by first | rfl | simp, step.out ⟨fun _ => rfl, fun h => by simp at h⟩, rfl⟩
    ·have hy1 : (y != 0) = true := by simp [hy0]
     have Hy : Hid (¬ y = 0) := hy0
     clear hy0
     go_wp2
     go_ret
     exact Says.no (fun h => Hy.out ((back.out (HP.out.1 h).2.1).1 rfl)) Hm.out
   by_cases hx1 : x = 1
   ·subst hx1
    clear hx0
    by_cases hy0 : y < 0
    ·have Hy : Hid (y < 0) := hy0
     go_wp2
     go_ret
     exact Says.no (fun h => by have := ((back.out (HP.out.1 h).2.1).2 rfl).1; have := Hy.out; omega) Hm.out
    by_cases hy1 : regs ≤ y
    ·have Hy : Hid (regs ≤ y) := hy1
     go_wp2
     go_ret
     exact Says.no (fun h => by have := ((back.out (HP.out.1 h).2.1).2 rfl).2; have := Hy.out; omega) Hm.out
    have Hy : Hid (Reg regs y) := ⟨by omega, by omega⟩
    go_wp2
    go_roundg q
    case measure => omega
    case rel => exact ⟨k + 1, by omega, by first | rfl | simp, step.out ⟨fun h => by simp at h, fun _ => Hy.out⟩, rfl⟩
   have Hx : Hid (¬ x = 0 ∧ ¬ x = 1) := ⟨hx0, hx1⟩
   have hx2 : (x == 0) = false := by simp [hx0]
   have hx3 : (x == 1) = false := by simp [hx1]
   clear hx0 hx1
   go_wp2
   go_roundg q
   case measure => omega
   case rel => exact ⟨k + 1, by omega, by first | rfl | simp, step.out ⟨fun h => absurd h Hx.out.1, fun h => absurd h Hx.out.2⟩, rfl⟩

set_option maxRecDepth 8000 in
set_option maxHeartbeats 1000000 in
theorem ins_op (ra : Option Addr) (rl rc : Nat) (ca : Option Addr) (cl cc : Nat) (op : Int) (o1 : 20 < op) (o2 : op ≤ 30) (a b c n regs : Int) (w : World) (P : Prop) (HP : Hid (P ↔ (n = 0 ∧ (∀ j, j < 3 → Fld regs (tri 1 1 1 j) (tri a b c j)) ∧ True))) :
  Calls Try.prog 53 #[.agg #[.slice ra rl rc, .slice ca cl cc], .agg #[.int .i64 op, .int .i64 a, .int .i64 b, .int .i64 c, .int .i64 n], .int .i64 regs] w (Says P w) := by
 go_enter Try.func53, Try.ntmps53
 go_wp2_with (fail)
 refine (shape_op op o1 o2 _).mono ?_
 rintro e w1 ⟨g, rfl, hg, m1⟩
 obtain ⟨⟨c0, c1⟩, d0, d1, d2, d3, d4⟩ := boxes2 m1
 have Hg : Hid (∀ j, j < 3 → w1.cell? ⟨g, j, none⟩ = some (.int .i64 (tri 1 1 1 j))) := hg
 have Hm1 : Hid (More w w1) := (((More.refl _).alloc _ _).alloc _ _).trans m1
 clear hg m1
 by_cases hn0 : n = 0
 rotate_left
 ·have HN : Hid (¬ n = 0) := hn0
  have hn1 : (n != 0) = true := by simp [hn0]
  clear hn0
  go_wp2
  go_ret
  exact Says.no (fun h => HN.out (HP.out.1 h).1) Hm1.out
 have HN : Hid (n = 0) := hn0
 have hn1 : (n != 0) = false := by simp [hn0]
 clear hn0
 go_wp2
 obtain ⟨W, HW⟩ : ∃ W : World, Hid (W = w1.alloc (.cells #[.int .i64 a, .int .i64 b, .int .i64 c] 3)) := ⟨_, rfl⟩
 have Hm1W : Hid (More w1 W) := HW.out ▸ (More.refl _).alloc _ _
 have Hm : Hid (More w W) := Hm1.out.trans Hm1W.out
 have Hf : Hid (∀ j, j < 3 → W.cell? ⟨w1.heap.size, j, none⟩ = some (.int .i64 (tri a b c j))) := by rw [HW.out]; exact tri_cells (by go_simp) (by go_simp) (by go_simp)
 have Hg' : Hid (∀ j, j < 3 → W.cell? ⟨g, j, none⟩ = some (.int .i64 (tri 1 1 1 j))) := fun j hj => Hm1W.out.cell (Hg.out j hj)
 clear Hg
 replace c0 := Hm1W.out.cell c0
 replace c1 := Hm1W.out.cell c1
 replace d0 := Hm1W.out.cell d0
 replace d1 := Hm1W.out.cell d1
 replace d2 := Hm1W.out.cell d2
 replace d3 := Hm1W.out.cell d3
 replace d4 := Hm1W.out.cell d4
 go_loopg [11] 3 (fun q i wr => ∃ k : Nat, k + q = 3 ∧ i = .int .i64 k ∧ (∀ j, j < k → Fld regs (tri 1 1 1 j) (tri a b c j)) ∧ wr = W)
 case atStart => exact ⟨0, by omega, rfl, fun j hj => by omega, HW.out.symm⟩
 case round =>
  obtain ⟨k, hkg, rfl, hok, rfl⟩ := hrel
  have Hok : Hid (∀ j, j < k → Fld regs (tri 1 1 1 j) (tri a b c j)) := hok
  clear hok
  cases gk with
  | zero =>
   obtain rfl : k = 3 := by omega
   go_wp2
   go_ret
   exact Says.yes (HP.out.2 ⟨HN.out, Hok.out, trivial⟩) Hm.out
  | succ q =>
   clear d0 d1 d2 d3 d4 c0 c1
   have hk : k < 3 := by omega
   have hk' : (k : Int) < 3 := by omega
   have hk0 : (0 : Int) ≤ (k : Int) := by omega
   have qg := Hg'.out k hk
   have qf := Hf.out k hk
   obtain ⟨x, hx⟩ : ∃ x, tri 1 1 1 k = x := ⟨_, rfl⟩
   obtain ⟨y, hy⟩ : ∃ y, tri a b c k = y := ⟨_, rfl⟩
   rw [hx] at qg
   rw [hy] at qf
   have HX : Hid (tri 1 1 1 k = x ∧ tri a b c k = y) := ⟨hx, hy⟩
   clear hx hy
   have step : Hid (Fld regs x y → ∀ j, j < k + 1 → Fld regs (tri 1 1 1 j) (tri a b c j)) := by
    intro h j hj
    by_cases e : j = k
    ·subst e; rw [HX.out.1, HX.out.2]; exact h
    ·exact Hok.out j (by omega)
   have back : Hid ((∀ j, j < 3 → Fld regs (tri 1 1 1 j) (tri a b c j)) → Fld regs x y) := by
    intro h
    have := h k hk
    rw [HX.out.1, HX.out.2] at this
    exact this
   by_cases hx0 : x = 0
   ·subst hx0
    by_cases hy0 : y = 0
    ·subst hy0
     go_wp2
     go_roundg q
     case measure => omega
     case rel => exact ⟨k + 1, by omega, by first | rfl | simp, step.out ⟨fun _ => rfl, fun h => by simp at h⟩, rfl⟩
    ·have hy1 : (y != 0) = true := by simp [hy0]
     have Hy : Hid (¬ y = 0) := hy0
     clear hy0
     go_wp2
     go_ret
     exact Says.no (fun h => Hy.out ((back.out (HP.out.1 h).2.1).1 rfl)) Hm.out
   by_cases hx1 : x = 1
   ·subst hx1
    clear hx0
    by_cases hy0 : y < 0
    ·have Hy : Hid (y < 0) := hy0
     go_wp2
     go_ret
     exact Says.no (fun h => by have := ((back.out (HP.out.1 h).2.1).2 rfl).1; have := Hy.out; omega) Hm.out
    by_cases hy1 : regs ≤ y
    ·have Hy : Hid (regs ≤ y) := hy1
     go_wp2
     go_ret
     exact Says.no (fun h => by have := ((back.out (HP.out.1 h).2.1).2 rfl).2; have := Hy.out; omega) Hm.out
    have Hy : Hid (Reg regs y) := ⟨by omega, by omega⟩
    go_wp2
    go_roundg q
    case measure => omega
    case rel => exact ⟨k + 1, by omega, by first | rfl | simp, step.out ⟨fun h => by simp at h, fun _ => Hy.out⟩, rfl⟩
   have Hx : Hid (¬ x = 0 ∧ ¬ x = 1) := ⟨hx0, hx1⟩
   have hx2 : (x == 0) = false := by simp [hx0]
   have hx3 : (x == 1) = false := by simp [hx1]
   clear hx0 hx1
   go_wp2
   go_roundg q
   case measure => omega
   case rel => exact ⟨k + 1, by omega, by first | rfl | simp, step.out ⟨fun h => absurd h Hx.out.1, fun h => absurd h Hx.out.2⟩, rfl⟩
end
section
open Go.RowKit
set_option linter.unusedSimpArgs false
theorem tri_all (regs x y z a b c : Int) : (∀ j, j < 3 → Fld regs (tri x y z j) (tri a b c j)) ↔ Fld regs x a ∧ Fld regs y b ∧ Fld regs z c := by
 constructor
 ·intro h
  exact ⟨h 0 (by omega), h 1 (by omega), h 2 (by omega)⟩
 ·rintro ⟨h0, h1, h2⟩ j hj
  have : j = 0 ∨ j = 1 ∨ j = 2 := by omega
  rcases this with rfl | rfl | rfl
  ·exact h0
  ·exact h1
  ·exact h2
theorem fld0 (regs f : Int) : Fld regs 0 f ↔ f = 0 := by unfold Fld; simp
theorem fld1 (regs f : Int) : Fld regs 1 f ↔ Reg regs f := by unfold Fld; simp
theorem fld2 (regs f : Int) : Fld regs 2 f ↔ True := by unfold Fld; simp

set_option maxRecDepth 8000 in
theorem ins_else (ra : Option Addr) (rl rc : Nat) (ca : Option Addr) (cl cc : Nat) (op a b c n regs : Int) (h1 : ¬ op = 1) (h2 : ¬ op = 2) (h3 : ¬ op = 3) (h4 : ¬ op = 4) (h5 : ¬ op = 5) (h6 : ¬ op = 6) (h7 : ¬ op = 7) (h8 : ¬ op = 8) (h9 : ¬ op = 9) (h10 : ¬ op = 10) (h11 : ¬ op = 11) (h12 : ¬ op = 12) (h : ¬ (20 < op ∧ op ≤ 30)) (w : World) :
  Calls Try.prog 53 #[.agg #[.slice ra rl rc, .slice ca cl cc], .agg #[.int .i64 op, .int .i64 a, .int .i64 b, .int .i64 c, .int .i64 n], .int .i64 regs] w fun e w' => e = .returned (.bool false) ∧ More w w' := by
 have Hs : Hid (∀ w : World, Calls Try.prog 67 #[.int .i64 op] w fun e w' => e = .returned (.tuple #[.slice none 0 0, .bool false, .bool false]) ∧ w' = w) := fun w => shape_else op h1 h2 h3 h4 h5 h6 h7 h8 h9 h10 h11 h12 h w
 clear h1 h2 h3 h4 h5 h6 h7 h8 h9 h10 h11 h12 h
 go_enter Try.func53, Try.ntmps53
 go_wp2_with (fail)
 refine (Hs.out _).mono ?_
 rintro e w1 ⟨rfl, rfl⟩
 go_wp2
 go_ret
 exact ⟨rfl, ((More.refl _).alloc _ _).alloc _ _⟩

theorem ref_ins (ra : Option Addr) (rl rc : Nat) (ca : Option Addr) (cl cc : Nat) (op a b c n regs : Int) (w : World) (rb ro : Nat) (log : Nat → Int) (sec : Nat → Bool) (hra : 0 < rl → ra = some ⟨rb, ro, none⟩) (hr : RegsAt w rb ro rl log sec) (hok : RegionsOk rl log) :
  Calls Try.prog 53 #[.agg #[.slice ra rl rc, .slice ca cl cc], .agg #[.int .i64 op, .int .i64 a, .int .i64 b, .int .i64 c, .int .i64 n], .int .i64 regs] w (Says (InsOk rl log cl regs ⟨op, a, b, c, n⟩) w) := by
 by_cases h1 : op = 1
 ·subst h1
  refine ins_1 ra rl rc ca cl cc a b c n regs w _ ?_
  show _ ↔ _
  rw [tri_all]; simp only [fld0, fld1, fld2]
  unfold InsOk
  simp [and_assoc, and_comm, and_left_comm]
 by_cases h2 : op = 2
 ·subst h2
  refine ins_2 ra rl rc ca cl cc a b c n regs w _ ?_
  show _ ↔ _
  rw [tri_all]; simp only [fld0, fld1, fld2]
  unfold InsOk
  simp [and_assoc, and_comm, and_left_comm]
 by_cases h3 : op = 3
 ·subst h3
  refine ins_3 ra rl rc ca cl cc a b c n regs w _ ?_
  show _ ↔ _
  rw [tri_all]; simp only [fld0, fld1, fld2]
  unfold InsOk
  simp [and_assoc, and_comm, and_left_comm]
 by_cases h4 : op = 4
 ·subst h4
  refine ins_4 ra rl rc ca cl cc a b c n regs w _ ?_
  show _ ↔ _
  rw [tri_all]; simp only [fld0, fld1, fld2]
  unfold InsOk
  simp [and_assoc, and_comm, and_left_comm]
 by_cases h5 : op = 5
 ·subst h5
  refine ins_5 ra rl rc ca cl cc a b c n regs w rb ro log sec hra hr hok _ ?_
  show _ ↔ _
  rw [tri_all]; simp only [fld0, fld1, fld2]
  unfold InsOk
  simp [and_assoc, and_comm, and_left_comm]
 by_cases h6 : op = 6
 ·subst h6
  refine ins_6 ra rl rc ca cl cc a b c n regs w rb ro log sec hra hr hok _ ?_
  show _ ↔ _
  rw [tri_all]; simp only [fld0, fld1, fld2]
  unfold InsOk
  simp [and_assoc, and_comm, and_left_comm]
 by_cases h7 : op = 7
 ·subst h7
  refine ins_7 ra rl rc ca cl cc a b c n regs w _ ?_
  show _ ↔ _
  rw [tri_all]; simp only [fld0, fld1, fld2]
  unfold InsOk
  simp [and_assoc, and_comm, and_left_comm]
 by_cases h8 : op = 8
 ·subst h8
  refine ins_8 ra rl rc ca cl cc a b c n regs w _ ?_
  show _ ↔ _
  rw [tri_all]; simp only [fld0, fld1, fld2]
  unfold InsOk
  simp [and_assoc, and_comm, and_left_comm]
 by_cases h9 : op = 9
 ·subst h9
  refine ins_9 ra rl rc ca cl cc a b c n regs w _ ?_
  show _ ↔ _
  rw [tri_all]; simp only [fld0, fld1, fld2]
  unfold InsOk
  simp [and_assoc, and_comm, and_left_comm]
 by_cases h10 : op = 10
 ·subst h10
  refine ins_10 ra rl rc ca cl cc a b c n regs w _ ?_
  show _ ↔ _
  rw [tri_all]; simp only [fld0, fld1, fld2]
  unfold InsOk
  simp [and_assoc, and_comm, and_left_comm]
 by_cases h11 : op = 11
 ·subst h11
  refine ins_11 ra rl rc ca cl cc a b c n regs w _ ?_
  show _ ↔ _
  rw [tri_all]; simp only [fld0, fld1, fld2]
  unfold InsOk
  simp [and_assoc, and_comm, and_left_comm]
 by_cases h12 : op = 12
 ·subst h12
  refine ins_12 ra rl rc ca cl cc a b c n regs w _ ?_
  show _ ↔ _
  rw [tri_all]; simp only [fld0, fld1, fld2]
  unfold InsOk
  simp [and_assoc, and_comm, and_left_comm]
 by_cases ho : 20 < op ∧ op ≤ 30
 ·refine ins_op ra rl rc ca cl cc op ho.1 ho.2 a b c n regs w _ ?_
  show _ ↔ _
  rw [tri_all]; simp only [fld1]
  unfold InsOk
  rw [if_neg h1, if_neg h2, if_neg h3, if_neg h4, if_neg h5, if_neg h6, if_neg h7, if_neg h8, if_neg h9, if_neg h10, if_neg h11, if_neg h12]
  constructor
  ·exact fun h => ⟨h.2.2.2.2, ⟨h.2.1, h.2.2.1, h.2.2.2.1⟩, trivial⟩
  ·exact fun h => ⟨⟨by have := ho.1; show (21 : Int) ≤ op; omega, ho.2⟩, h.2.1.1, h.2.1.2.1, h.2.1.2.2, h.1⟩
 refine (ins_else ra rl rc ca cl cc op a b c n regs h1 h2 h3 h4 h5 h6 h7 h8 h9 h10 h11 h12 ho w).mono ?_
 rintro e w' ⟨rfl, m⟩
 refine Says.no (fun h => ?_) m
 unfold InsOk at h
 rw [if_neg h1, if_neg h2, if_neg h3, if_neg h4, if_neg h5, if_neg h6, if_neg h7, if_neg h8, if_neg h9, if_neg h10, if_neg h11, if_neg h12] at h
 exact ho ⟨by have := h.1.1; dsimp only at this; omega, h.1.2⟩

set_option maxHeartbeats 1000000 in
theorem ref_is (ra : Option Addr) (rl rc : Nat) (ca : Option Addr) (cl cc : Nat) (code regs : Int) (rb ro cb co : Nat) (log : Nat → Int) (sec : Nat → Bool) (ins : Nat → Ins) (w : World) (most : Nat) (hcode : code = most) (hmost : most ≤ 8000)
  (hra : 0 < rl → ra = some ⟨rb, ro, none⟩) (hr : RegsAt w rb ro rl log sec) (hca : 0 < cl → ca = some ⟨cb, co, none⟩) (hc : CodeAt w cb co cl ins) :
  Calls Try.prog 27 #[.agg #[.slice ra rl rc, .slice ca cl cc], .int .i64 code, .int .i64 regs] w (Says (RegionsOk rl log ∧ CodeOk rl log cl ins most regs) w) := by
 have Hcd : Hid (code = most ∧ most ≤ 8000) := ⟨hcode, hmost⟩
 have Hr : Hid ((0 < rl → ra = some ⟨rb, ro, none⟩) ∧ RegsAt w rb ro rl log sec) := ⟨hra, hr⟩
 have Hc : Hid ((0 < cl → ca = some ⟨cb, co, none⟩) ∧ CodeAt w cb co cl ins) := ⟨hca, hc⟩
 obtain ⟨Pr, HP⟩ : ∃ Pr : Prop, Hid (Pr ↔ (RegionsOk rl log ∧ CodeOk rl log cl ins most regs)) := ⟨_, Iff.rfl⟩
 rw [← propext HP.out]
 clear hcode hmost hra hr hca hc
 go_enter Try.func27, Try.ntmps27
 go_wp2_with (fail)
 refine (ref_regions ra rl rc ca cl cc rb ro log sec _ Hr.out.1 (Hr.out.2.more ((More.refl _).alloc _ _))).mono ?_
 rintro e w1 ⟨r, rfl, h, m1⟩
 have e0 : w1.cell? ⟨w.heap.size, 0, none⟩ = some (.slice ra rl rc) := m1.cell (by go_simp)
 have e1 : w1.cell? ⟨w.heap.size, 1, none⟩ = some (.slice ca cl cc) := m1.cell (by go_simp)
 have Hm1 : Hid (More w w1) := ((More.refl _).alloc _ _).trans m1
 clear m1
 cases r with
 | false =>
  have HA : Hid (¬ RegionsOk rl log) := fun k => by simpa using h.2 k
  clear h
  go_wp2
  go_ret
  exact Says.no (fun h => HA.out (HP.out.1 h).1) Hm1.out
 | true =>
  have HA : Hid (RegionsOk rl log) := h.1 rfl
  clear h
  by_cases h1 : (cl : Int) < 1
  ·have T : Hid ((cl : Int) < 1) := h1
   go_wp2
   go_ret
   exact Says.no (fun h => by have := (HP.out.1 h).2.1; have := T.out; omega) Hm1.out
  by_cases h2 : code < (cl : Int)
  ·have T : Hid (code < (cl : Int)) := h2
   go_wp2
   go_ret
   exact Says.no (fun h => by have := (HP.out.1 h).2.2.1; have := Hcd.out.1; have := T.out; omega) Hm1.out
  have Hl : Hid (1 ≤ cl ∧ cl ≤ most) := ⟨by omega, by have := Hcd.out.1; omega⟩
  have He : Hid (w1.cell? ⟨w.heap.size, 0, none⟩ = some (.slice ra rl rc) ∧ w1.cell? ⟨w.heap.size, 1, none⟩ = some (.slice ca cl cc)) := ⟨e0, e1⟩
  go_wp2
  clear e0 e1
  go_loopg [7] cl (fun g i wr => ∃ k : Nat, k + g = cl ∧ i = .int .i64 k ∧ (∀ j, j < k → InsOk rl log cl regs (ins j)) ∧ More w wr ∧ wr.cell? ⟨w.heap.size, 0, none⟩ = some (.slice ra rl rc) ∧ wr.cell? ⟨w.heap.size, 1, none⟩ = some (.slice ca cl cc))
  case atStart => exact ⟨0, by omega, rfl, fun j hj => by omega, Hm1.out, He.out.1, He.out.2⟩
  case round =>
   obtain ⟨k, hkg, rfl, hin, m, e0, e1⟩ := hrel
   have Hm : Hid (More w wr ∧ ∀ j, j < k → InsOk rl log cl regs (ins j)) := ⟨m, hin⟩
   clear m hin
   cases gk with
   | zero =>
    obtain rfl : k = cl := by omega
    go_wp2
    go_ret
    exact Says.yes (HP.out.2 ⟨HA.out, Hl.out.1, Hl.out.2, Hm.out.2⟩) Hm.out.1
   | succ g =>
    have hk : k < cl := by omega
    have hk' : (k : Int) < (cl : Int) := by omega
    have hk0 : (0 : Int) ≤ (k : Int) := by omega
    obtain rfl := Hc.out.1 (by omega)
    have hcell := (Hc.out.2.more Hm.out.1) k hk
    cases hI : ins k with
    | mk op a b c n =>
    rw [hI] at hcell
    have HI : Hid (ins k = ⟨op, a, b, c, n⟩) := hI
    clear hI
    obtain ⟨q0, q1, q2, q3, q4⟩ := hcell
    obtain ⟨S, HS⟩ : ∃ S : World → Prop, Hid (∀ w', S w' ↔ More wr w') := ⟨fun w' => More wr w', fun _ => Iff.rfl⟩
    have k0 : ∀ i : { w' // S w' }, i.val.cell? ⟨w.heap.size, 0, none⟩ = some (.slice ra rl rc) := fun i => ((HS.out _).1 i.property).cell e0
    have k1 : ∀ i : { w' // S w' }, i.val.cell? ⟨w.heap.size, 1, none⟩ = some (.slice (some ⟨cb, co, none⟩) cl cc) := fun i => ((HS.out _).1 i.property).cell e1
    have d0 : ∀ i : { w' // S w' }, i.val.cell? ⟨cb, co + k * 5, none⟩ = some (.int .i64 op) := fun i => ((HS.out _).1 i.property).cell q0
    have d1 : ∀ i : { w' // S w' }, i.val.cell? ⟨cb, co + k * 5 + 1, none⟩ = some (.int .i64 a) := fun i => ((HS.out _).1 i.property).cell q1
    have d2 : ∀ i : { w' // S w' }, i.val.cell? ⟨cb, co + k * 5 + 2, none⟩ = some (.int .i64 b) := fun i => ((HS.out _).1 i.property).cell q2
    have d3 : ∀ i : { w' // S w' }, i.val.cell? ⟨cb, co + k * 5 + 3, none⟩ = some (.int .i64 c) := fun i => ((HS.out _).1 i.property).cell q3
    have d4 : ∀ i : { w' // S w' }, i.val.cell? ⟨cb, co + k * 5 + 4, none⟩ = some (.int .i64 n) := fun i => ((HS.out _).1 i.property).cell q4
    have hne : Nonempty { w' // S w' } := ⟨⟨wr, (HS.out _).2 (More.refl _)⟩⟩
    go_wp2_with (fail)
    refine wp_region_ord (S := S) [(0, true), (1, true), (2, true), (3, true), (4, true), (5, true), (6, true), (7, false), (8, true)] (by kernel_rfl) (by kernel_rfl) (by kernel_rfl) ((HS.out _).2 (More.refl _).drew) ?_
    iterate 7 (refine wpOrd_take rfl (by kernel_rfl) (fun K hK => ?_); go_simp; refine hK _ _ ?_; clear hK K)
    refine wpOrd_busy rfl (by kernel_rfl) (fun K hK => ?_); go_simp
    refine (ref_ins ra rl rc _ cl cc op a b c n regs _ rb ro log sec Hr.out.1 (Hr.out.2.more (Hm.out.1.trans (More.refl _).drew)) HA.out).mono ?_
    rintro e w2 ⟨r2, rfl, hr2, m2⟩
    have Hm2 : Hid (More wr w2) := (More.refl _).drew.trans m2
    clear m2
    have e0' := Hm2.out.cell e0
    have e1' := Hm2.out.cell e1
    clear e0 e1
    cases r2 with
    | false =>
     have HF : Hid (¬ InsOk rl log cl regs ⟨op, a, b, c, n⟩) := fun h => by simpa using hr2.2 h
     clear hr2
     go_simp
     refine hK _ _ ((HS.out _).2 Hm2.out) ?_; clear hK K
     refine wpOrd_take rfl (by kernel_rfl) (fun K hK => ?_); go_simp; refine hK _ _ ?_; clear hK K
     refine wpOrd_done ?_
     clear k0 k1 d0 d1 d2 d3 d4 hne q0 q1 q2 q3 q4
     go_wp2
     go_ret
     exact Says.no (fun h => HF.out (HI.out ▸ (HP.out.1 h).2.2.2 k hk)) (Hm.out.1.trans Hm2.out)
    | true =>
     have HF : Hid (InsOk rl log cl regs ⟨op, a, b, c, n⟩) := hr2.1 rfl
     clear hr2
     go_simp
     refine hK _ _ ((HS.out _).2 Hm2.out) ?_; clear hK K
     refine wpOrd_take rfl (by kernel_rfl) (fun K hK => ?_); go_simp; refine hK _ _ ?_; clear hK K
     refine wpOrd_done ?_
     clear k0 k1 d0 d1 d2 d3 d4 hne q0 q1 q2 q3 q4
     go_wp2
     go_roundg g
     case measure => omega
     case rel =>
      refine ⟨k + 1, by omega, by first | rfl | (simp; unfold wrap64; have := Hl.out.2; have := Hcd.out.2; omega), fun j hj => ?_, Hm.out.1.trans Hm2.out, e0', e1'⟩
      by_cases e : j = k
      ·subst e; rw [HI.out]; exact HF.out
      ·exact Hm.out.2 j (by omega)

theorem ref_may (p : Prg) (l : Loc) (w : World) (h : PIn w p l) :
  Calls Try.prog 22 #[.agg #[.slice l.ra p.rl l.rc, .slice l.ca p.cl l.cc]] w (Says (p.Ok 200 8) w) := by
 have H : Hid (PIn w p l) := h
 clear h
 go_enter Try.func22, Try.ntmps22
 go_wp2_with (fail)
 have m0 : More w (w.alloc (.cells #[.slice l.ra p.rl l.rc, .slice l.ca p.cl l.cc] 25)) := (More.refl _).alloc _ _
 refine (ref_is l.ra p.rl l.rc l.ca p.cl l.cc 200 8 l.rb l.ro l.cb l.co p.log p.sec p.ins _ 200 rfl (by omega) H.out.hr (H.out.regs.more m0) H.out.hc (H.out.code.more m0)).mono ?_
 rintro e w1 ⟨r, rfl, h1, m1⟩
 have H1 : Hid ((r = true ↔ p.Ok 200 8) ∧ More w w1) := ⟨h1, m0.trans m1⟩
 clear h1 m1 m0
 go_wp2
 go_ret
 exact ⟨r, rfl, H1.out.1, H1.out.2⟩

theorem ref_hard (p : Prg) (l : Loc) (w : World) (h : PIn w p l) :
  Calls Try.prog 9 #[.agg #[.slice l.ra p.rl l.rc, .slice l.ca p.cl l.cc]] w (Says (p.Ok 8000 10) w) := by
 have H : Hid (PIn w p l) := h
 clear h
 go_enter Try.func9, Try.ntmps9
 go_wp2_with (fail)
 have m0 : More w (w.alloc (.cells #[.slice l.ra p.rl l.rc, .slice l.ca p.cl l.cc] 25)) := (More.refl _).alloc _ _
 refine (ref_is l.ra p.rl l.rc l.ca p.cl l.cc 8000 10 l.rb l.ro l.cb l.co p.log p.sec p.ins _ 8000 rfl (by omega) H.out.hr (H.out.regs.more m0) H.out.hc (H.out.code.more m0)).mono ?_
 rintro e w1 ⟨r, rfl, h1, m1⟩
 have H1 : Hid ((r = true ↔ p.Ok 8000 10) ∧ More w w1) := ⟨h1, m0.trans m1⟩
 clear h1 m1 m0
 go_wp2
 go_ret
 exact ⟨r, rfl, H1.out.1, H1.out.2⟩

set_option maxHeartbeats 1000000 in
theorem ref_fits (ra : Option Addr) (rl rc : Nat) (ca : Option Addr) (cl cc : Nat) (ma : Option Addr) (ml mc : Nat) (rb ro mb mo : Nat) (log : Nat → Int) (sec : Nat → Bool) (A : Nat → Option Addr) (L C : Nat → Nat) (w : World)
  (hra : 0 < rl → ra = some ⟨rb, ro, none⟩) (hr : RegsAt w rb ro rl log sec) (hma : 0 < ml → ma = some ⟨mb, mo, none⟩) (hm : ListsAt w mb mo ml A L C) :
  Calls Try.prog 12 #[.agg #[.slice ra rl rc, .slice ca cl cc], .slice ma ml mc] w (Says (FitsOk rl log ml L) w) := by
 have Hr : Hid ((0 < rl → ra = some ⟨rb, ro, none⟩) ∧ RegsAt w rb ro rl log sec) := ⟨hra, hr⟩
 have Hl : Hid ((0 < ml → ma = some ⟨mb, mo, none⟩) ∧ ListsAt w mb mo ml A L C) := ⟨hma, hm⟩
 obtain ⟨Pr, HP⟩ : ∃ Pr : Prop, Hid (Pr ↔ FitsOk rl log ml L) := ⟨_, Iff.rfl⟩
 rw [← propext HP.out]
 clear hra hr hma hm
 go_enter Try.func12, Try.ntmps12
 go_wp2_with (fail)
 refine (ref_regions ra rl rc ca cl cc rb ro log sec _ Hr.out.1 (Hr.out.2.more ((More.refl _).alloc _ _))).mono ?_
 rintro e w1 ⟨r, rfl, h, m1⟩
 have e0 : w1.cell? ⟨w.heap.size, 0, none⟩ = some (.slice ra rl rc) := m1.cell (by go_simp)
 have e1 : w1.cell? ⟨w.heap.size, 1, none⟩ = some (.slice ca cl cc) := m1.cell (by go_simp)
 have Hm1 : Hid (More w w1) := ((More.refl _).alloc _ _).trans m1
 clear m1
 cases r with
 | false =>
  have HA : Hid (¬ RegionsOk rl log) := fun k => by simpa using h.2 k
  clear h
  go_wp2
  go_ret
  exact Says.no (fun h => HA.out (HP.out.1 h).1) Hm1.out
 | true =>
  have HA : Hid (RegionsOk rl log) := h.1 rfl
  clear h
  by_cases hne : (ml : Int) = (rl : Int)
  ·have Hml : Hid (ml = rl) := (by omega : ml = rl)
   have h6 : ml ≤ 6 := by have := HA.out.1; have := Hml.out; omega
   have hne' : ((ml : Int) != (rl : Int)) = false := by simp [hne]
   have Hle : Hid ((ml : Int) ≤ (rl : Int)) := by rw [hne]; exact Int.le_refl _
   clear hne
   have He : Hid (w1.cell? ⟨w.heap.size, 0, none⟩ = some (.slice ra rl rc) ∧ w1.cell? ⟨w.heap.size, 1, none⟩ = some (.slice ca cl cc)) := ⟨e0, e1⟩
   go_wp2
   clear e0 e1 hne'
   go_loopg [5] ml (fun g i wr => ∃ k : Nat, k + g = ml ∧ i = .int .i64 k ∧ (∀ j, j < k → (L j : Int) = wordsI (log j)) ∧ More w wr ∧ wr.cell? ⟨w.heap.size, 0, none⟩ = some (.slice ra rl rc) ∧ wr.cell? ⟨w.heap.size, 1, none⟩ = some (.slice ca cl cc))
   case atStart => exact ⟨0, by omega, rfl, fun j hj => by omega, Hm1.out, He.out.1, He.out.2⟩
   case round =>
    obtain ⟨k, hkg, rfl, hin, m, e0, e1⟩ := hrel
    have Hm : Hid (More w wr ∧ ∀ j, j < k → (L j : Int) = wordsI (log j)) := ⟨m, hin⟩
    clear m hin
    cases gk with
    | zero =>
     obtain rfl : k = ml := by omega
     go_wp2
     go_ret
     exact Says.yes (HP.out.2 ⟨HA.out, Hml.out, fun i hi => Hm.out.2 i (by have := Hml.out; omega)⟩) Hm.out.1
    | succ g =>
     have hk : k < ml := by omega
     have hkr : k < rl := by have := Hml.out; omega
     have hk' : (k : Int) < (ml : Int) := by omega
     have hkr' : (k : Int) < (rl : Int) := by omega
     have hk0 : (0 : Int) ≤ (k : Int) := by omega
     obtain rfl := Hr.out.1 (by omega)
     obtain rfl := Hl.out.1 (by omega)
     have q0 := ((Hr.out.2.more Hm.out.1) k hkr).1
     have q1 := ((Hr.out.2.more Hm.out.1) k hkr).2
     have Hlog : Hid (0 ≤ log k ∧ log k ≤ 6) := HA.out.2 k hkr
     obtain ⟨lk, hlk⟩ : ∃ x, log k = x := ⟨_, rfl⟩
     rw [hlk] at q0 Hlog
     have Hlk : Hid (log k = lk) := hlk
     clear hlk
     go_wp2_with (fail)
     obtain ⟨nw, hnw⟩ : ∃ x, wordsI lk = x := ⟨_, rfl⟩
     refine (ref_words lk Hlog.out.1 Hlog.out.2 (sec k) _).mono ?_
     rw [hnw]
     have Hnw : Hid (wordsI (log k) = nw) := by rw [Hlk.out]; exact hnw
     clear hnw q0 q1
     rintro e w2 ⟨rfl, m2⟩
     have e0' := m2.cell e0
     have e1' := m2.cell e1
     have Hm2 : Hid (More w w2) := Hm.out.1.trans m2
     clear m2 e0 e1
     have q2 := (Hl.out.2.more Hm2.out) k hk
     by_cases hq : (L k : Int) = nw
     ·have Hq : Hid ((L k : Int) = nw) := hq
      have heq : ((L k : Int) != nw) = false := by simp [hq]
      clear hq
      go_wp2
      go_roundg g
      case measure => omega
      case rel =>
       refine ⟨k + 1, by omega, by first | rfl | (simp; unfold wrap64; omega), fun j hj => ?_, Hm2.out, e0', e1'⟩
       by_cases e : j = k
       ·subst e; rw [Hq.out, Hnw.out]
       ·exact Hm.out.2 j (by omega)
     ·have Hq : Hid (¬ (L k : Int) = nw) := hq
      have heq' : ((L k : Int) != nw) = true := by simp [hq]
      clear hq
      go_wp2
      go_ret
      exact Says.no (fun h => Hq.out (by rw [← Hnw.out]; exact (HP.out.1 h).2.2 k hkr)) Hm2.out
  ·have T : Hid (¬ ml = rl) := fun e => hne (by rw [e])
   have hne' : ((ml : Int) != (rl : Int)) = true := by simp; omega
   clear hne
   go_wp2
   go_ret
   exact Says.no (fun h => T.out (HP.out.1 h).2.1) Hm1.out
end
section
open Go.ChangeShapes Go.WideShapes Go.ChangeAt Go.RowKit Go.Deep Go.Joins
set_option maxRecDepth 8000
theorem cells47 : Try.prog.cellsOf 51 = 2 := by kernel_rfl
theorem cells34 : Try.prog.cellsOf 59 = 5 := by kernel_rfl
theorem cells29 : Try.prog.cellsOf 25 = 2 := by kernel_rfl
theorem cells48 : Try.prog.cellsOf 70 = 1 := by kernel_rfl
theorem cells2 : Try.prog.cellsOf 2 = 1 := by kernel_rfl
theorem cells3 : Try.prog.cellsOf 3 = 1 := by kernel_rfl
theorem cells4 : Try.prog.cellsOf 4 = 1 := by kernel_rfl

def I64 (x : Int) : Prop := -9223372036854775808 ≤ x ∧ x ≤ 9223372036854775807
def Ins.fits (i : Ins) : Prop := I64 i.op ∧ I64 i.a ∧ I64 i.b ∧ I64 i.c ∧ I64 i.n

/-- What holds of every program that is handed in: the lengths and numbers are such as Go has. -/
structure Prg.Fit (p : Prg) : Prop where
 rl : p.rl ≤ maxLen
 cl : p.cl ≤ maxLen
 log : ∀ i, i < p.rl → I64 (p.log i)
 ins : ∀ i, i < p.cl → (p.ins i).fits

section
variable {H : Type} {enc : TypeId × Value → H} {W : World} {base : Nat} {held : Bool}

theorem plain_addr {a : Addr} {v : Value} (h : W.cell? a = some v) : a = ⟨a.block, a.off, none⟩ := by
 have := World.cell?_spot h
 cases a
 simp_all

theorem open_regs {fuel : Nat} {cs : List Value} {x : DataW H × List MemPlace} (h : DataW.trod enc Try.prog W base (fun _ => true) held fuel 22 cs = some x) :
  ∃ (ra : Option Addr) (rb ro rl rc : Nat) (log : Nat → Int) (sec : Nat → Bool), cs = [.slice ra rl rc] ∧ (0 < rl → ra = some ⟨rb, ro, none⟩) ∧ RegsAt W rb ro rl log sec ∧ rl ≤ rc ∧ rc ≤ maxLen ∧ ∀ i, i < rl → I64 (log i) := by
 rcases open_slice Try.underlying22 h with ⟨rfl, _⟩ | ⟨a, len, cap, m, n, D, Pl, rfl, hb, hl, hm, hmm, rfl, hx⟩
 ·exact ⟨none, 0, 0, 0, 0, fun _ => 0, fun _ => false, rfl, fun h => by omega, fun i hi => by omega, Nat.le_refl _, Nat.zero_le _, fun i hi => by omega⟩
 have hlm : len ≤ m := by rw [hmm]; simpa using hl
 have each : ∀ i, i < len → ∃ q : Int × Bool, W.cell? (a.add (i * 2)) = some (.int .i64 q.1) ∧ W.cell? (a.add (i * 2 + 1)) = some (.bool q.2) ∧ I64 q.1 := by
  intro i hi
  obtain ⟨cs', h1, h2⟩ := hx i (by omega)
  rw [cells47] at h1
  obtain ⟨_, hlen, hcell⟩ := World.cells?_some h1
  obtain ⟨xs, k, hk, hxy, _, hxl, hf⟩ := DataW.trod_struct Try.underlying51 h2
  match cs', hlen with
  | [v0, v1], _ =>
   have g0 := hf 0 _ rfl
   have g1 := hf 1 _ rfl
   have e0 := hcell 0 (by omega)
   have e1 := hcell 1 (by omega)
   rw [add_add] at e0 e1
   simp [cells3, cells4] at g0 g1
   match xs, hxl with
   | [y0, y1], _ =>
    simp at g0 g1
    obtain ⟨z, hz, _, wz⟩ := DataW.trod_int Try.underlying3 g0
    obtain ⟨s, hs, _⟩ := DataW.trod_bool Try.underlying4 g1
    simp at hz hs e0 e1
    subst hz hs
    exact ⟨(z, s), e0, e1, bounds_i64 wz⟩
 obtain ⟨q, hq⟩ := choose_lt each
 refine ⟨some a, a.block, a.off, len, cap, fun i => (q i).1, fun i => (q i).2, rfl, fun h0 => ?_, fun i hi => ?_, hl, hm, fun i hi => (hq i hi).2.2⟩
 ·have h1 := (hq 0 h0).1
  simp [Addr.add] at h1
  rw [← plain_addr h1]
 ·have h1 := (hq 0 (by omega)).1
  simp [Addr.add] at h1
  have ha := plain_addr h1
  obtain ⟨b, o, s⟩ := a
  simp at ha
  subst ha
  have := hq i hi
  rw [add_plain, add_plain] at this
  exact ⟨by simpa using this.1, by have := this.2.1; simpa [Nat.add_assoc] using this⟩

theorem open_code {fuel : Nat} {cs : List Value} {x : DataW H × List MemPlace} (h : DataW.trod enc Try.prog W base (fun _ => true) held fuel 23 cs = some x) :
  ∃ (ca : Option Addr) (cb co cl cc : Nat) (ins : Nat → Ins), cs = [.slice ca cl cc] ∧ (0 < cl → ca = some ⟨cb, co, none⟩) ∧ CodeAt W cb co cl ins ∧ cl ≤ cc ∧ cc ≤ maxLen ∧ ∀ i, i < cl → (ins i).fits := by
 rcases open_slice Try.underlying23 h with ⟨rfl, _⟩ | ⟨a, len, cap, m, n, D, Pl, rfl, hb, hl, hm, hmm, rfl, hx⟩
 ·exact ⟨none, 0, 0, 0, 0, fun _ => ⟨0, 0, 0, 0, 0⟩, rfl, fun h => by omega, fun i hi => by omega, Nat.le_refl _, Nat.zero_le _, fun i hi => by omega⟩
 have hlm : len ≤ m := by rw [hmm]; simpa using hl
 have each : ∀ i, i < len → ∃ q : Int × Int × Int × Int × Int, W.cell? (a.add (i * 5)) = some (.int .i64 q.1) ∧ W.cell? (a.add (i * 5 + 1)) = some (.int .i64 q.2.1) ∧ W.cell? (a.add (i * 5 + 2)) = some (.int .i64 q.2.2.1) ∧
   W.cell? (a.add (i * 5 + 3)) = some (.int .i64 q.2.2.2.1) ∧ W.cell? (a.add (i * 5 + 4)) = some (.int .i64 q.2.2.2.2) ∧ I64 q.1 ∧ I64 q.2.1 ∧ I64 q.2.2.1 ∧ I64 q.2.2.2.1 ∧ I64 q.2.2.2.2 := by
  intro i hi
  obtain ⟨cs', h1, h2⟩ := hx i (by omega)
  rw [cells34] at h1
  obtain ⟨_, hlen, hcell⟩ := World.cells?_some h1
  obtain ⟨xs, k, hk, hxy, _, hxl, hf⟩ := DataW.trod_struct Try.underlying59 h2
  match cs', hlen with
  | [v0, v1, v2, v3, v4], _ =>
   have g0 := hf 0 _ rfl
   have g1 := hf 1 _ rfl
   have g2 := hf 2 _ rfl
   have g3 := hf 3 _ rfl
   have g4 := hf 4 _ rfl
   have e0 := hcell 0 (by omega)
   have e1 := hcell 1 (by omega)
   have e2 := hcell 2 (by omega)
   have e3 := hcell 3 (by omega)
   have e4 := hcell 4 (by omega)
   rw [add_add] at e0 e1 e2 e3 e4
   simp [cells3, cells2] at g0 g1 g2 g3 g4
   match xs, hxl with
   | [y0, y1, y2, y3, y4], _ =>
    simp at g0 g1 g2 g3 g4
    obtain ⟨z0, hz0, _, wz0⟩ := DataW.trod_int Try.underlying3 g0
    obtain ⟨z1, hz1, _, wz1⟩ := DataW.trod_int Try.underlying3 g1
    obtain ⟨z2, hz2, _, wz2⟩ := DataW.trod_int Try.underlying3 g2
    obtain ⟨z3, hz3, _, wz3⟩ := DataW.trod_int Try.underlying3 g3
    obtain ⟨z4, hz4, _, wz4⟩ := DataW.trod_int Try.underlying2 g4
    simp at hz0 hz1 hz2 hz3 hz4 e0 e1 e2 e3 e4
    subst hz0 hz1 hz2 hz3 hz4
    exact ⟨(z0, z1, z2, z3, z4), e0, e1, e2, e3, e4, bounds_i64 wz0, bounds_i64 wz1, bounds_i64 wz2, bounds_i64 wz3, bounds_i64 wz4⟩
 obtain ⟨q, hq⟩ := choose_lt each
 refine ⟨some a, a.block, a.off, len, cap, fun i => ⟨(q i).1, (q i).2.1, (q i).2.2.1, (q i).2.2.2.1, (q i).2.2.2.2⟩, rfl, fun h0 => ?_, fun i hi => ?_, hl, hm, fun i hi => (hq i hi).2.2.2.2.2⟩
 ·have h1 := (hq 0 h0).1
  simp [Addr.add] at h1
  rw [← plain_addr h1]
 ·have h1 := (hq 0 (by omega)).1
  simp [Addr.add] at h1
  have ha := plain_addr h1
  obtain ⟨b, o, s⟩ := a
  simp at ha
  subst ha
  have := hq i hi
  rw [add_plain, add_plain, add_plain, add_plain, add_plain] at this
  obtain ⟨t0, t1, t2, t3, t4, _⟩ := this
  exact ⟨by simpa using t0, by simpa [Nat.add_assoc] using t1, by simpa [Nat.add_assoc] using t2, by simpa [Nat.add_assoc] using t3, by simpa [Nat.add_assoc] using t4⟩

theorem open_prog {v : Value} {d : DataW H} {ps : List MemPlace} {r : Reach} {b0 : Nat} (hv : Value.okWide Try.prog W r b0 25 v) (h : DataW.Trod enc Try.prog W base (fun _ => true) held 25 v d ps) :
  ∃ (p : Prg) (l : Loc), v = .agg #[.slice l.ra p.rl l.rc, .slice l.ca p.cl l.cc] ∧ PIn W p l ∧ p.Fit := by
 obtain ⟨v0, v1, y0, y1, n, rfl, rfl, rfl, h0, h1⟩ := open_agg2 Try.underlying25 (by kernel_rfl) cells29 hv h
 obtain ⟨ra, rb, ro, rl, rc, log, sec, e0, hra, hr, hrc, hrm, hlog⟩ := open_regs h0
 obtain ⟨ca, cb, co, cl, cc, ins, e1, hca, hc, hcc, hcm, hins⟩ := open_code h1
 simp at e0 e1
 subst e0 e1
 exact ⟨⟨rl, log, sec, cl, ins⟩, ⟨ra, rb, ro, rc, ca, cb, co, cc⟩, rfl, ⟨hra, hca, hr, hc⟩, ⟨Nat.le_trans hrc hrm, Nat.le_trans hcc hcm, hlog, hins⟩⟩

end
end
section
open Go.ChangeShapes Go.WideShapes Go.ChangeAt Go.RowKit Go.Deep Go.Joins
set_option linter.unusedVariables false
set_option maxRecDepth 8000
structure MRaw (w : World) (m : Mem) (l : MLoc) : Prop where
 hm : 0 < m.ml → l.ma = some ⟨l.mb, l.mo, none⟩
 lists : ListsAt w l.mb l.mo m.ml l.A m.len l.C
 hg : ∀ i, i < m.ml → 0 < m.len i → l.A i = some ⟨l.gb i, l.go i, none⟩
 words : ∀ i, i < m.ml → ∀ j, j < m.len i → w.cell? ⟨l.gb i, l.go i + j, none⟩ = some (.int .i64 (m.wd i j))
theorem MRaw.more {w w' : World} (m : More w w') {x : Mem} {l : MLoc} (h : MRaw w x l) : MRaw w' x l :=
 ⟨h.hm, h.lists.more m, h.hg, fun i hi j hj => m.cell (h.words i hi j hj)⟩
theorem MRaw.in_ {w : World} {m : Mem} {l : MLoc} (h : MRaw w m l) (h1 : m.ml ≤ 6) (h2 : ∀ i, i < m.ml → m.len i ≤ 64) : MIn w m l :=
 ⟨h.hm, h.lists, h.hg, h.words, by omega, fun i hi => by have := h2 i hi; omega⟩

theorem open_memw {H : Type} {enc : TypeId × Value → H} {W : World} {base : Nat} {held : Bool} {v : Value} {d : DataW H} {ps : List MemPlace} {r : Reach} {b0 : Nat}
  (hv : Value.okWide Try.prog W r b0 35 v) (h : DataW.Trod enc Try.prog W base (fun _ => true) held 35 v d ps) :
  ∃ (m : Mem) (l : MLoc), v = .slice l.ma m.ml l.mc ∧ MRaw W m l ∧ ∀ j, j < m.ml → ∀ i, i < m.len j → B64 (m.wd j i) := by
 obtain ⟨a0, len, cap, rfl⟩ := okWide_slice Try.underlying35 hv
 obtain ⟨fuel, hf⟩ := h
 rcases open_int_rows Try.underlying35 Try.underlying70 Try.underlying2 cells48 cells2 hf with ⟨hcs, _⟩ | ⟨a, len', cap', A, L, C, Z, hcs, _, hl, hm, _, hrow⟩
 ·simp [Value.cells] at hcs
  obtain ⟨rfl, rfl, rfl⟩ := hcs
  exact ⟨⟨0, fun _ => 0, fun _ _ => 0⟩, ⟨none, 0, 0, 0, fun _ => none, fun _ => 0, fun _ => 0, fun _ => 0⟩, rfl, ⟨fun h => by simp at h, fun i hi => by simp at hi, fun i hi => by simp at hi, fun i hi => by simp at hi⟩, fun j hj => by simp at hj⟩
 ·simp [Value.cells] at hcs
  obtain ⟨rfl, rfl, rfl⟩ := hcs
  have haddr : ∀ i, i < len → 0 < L i → ∃ a', A i = some a' ∧ a' = ⟨a'.block, a'.off, none⟩ := by
   intro i hi h0
   obtain ⟨_, h2, _, _, _, h6, h7⟩ := hrow i (by omega)
   cases hA : A i with
   | none => have := h6 hA; omega
   | some a' =>
    refine ⟨a', rfl, ?_⟩
    have := (h7 a' hA).2 0 (by omega)
    simp [Addr.add] at this
    exact plain_addr this
  refine ⟨⟨len, L, fun i j => (Z i).getD j 0⟩, ⟨some a, a.block, a.off, cap, A, C, fun i => ((A i).getD a).block, fun i => ((A i).getD a).off⟩, rfl, ⟨fun h0 => ?_, fun i hi => ?_, fun i hi h0 => ?_, fun i hi j hj => ?_⟩, fun j hj i hi => ?_⟩
  ·dsimp only at h0 ⊢
   have h1 := (hrow 0 (by omega)).1
   simp [Addr.add] at h1
   rw [← plain_addr h1]
  ·dsimp only at hi ⊢
   have h1 := (hrow 0 (by omega)).1
   simp [Addr.add] at h1
   have ha := plain_addr h1
   obtain ⟨b, o, s⟩ := a
   simp at ha
   subst ha
   have := (hrow i (by omega)).1
   rw [add_plain] at this
   exact this
  ·dsimp only at hi h0 ⊢
   obtain ⟨a', e1, e2⟩ := haddr i hi h0
   rw [e1]
   simp only [Option.getD_some]
   rw [← e2]
  ·dsimp only at hi hj ⊢
   obtain ⟨a', e1, e2⟩ := haddr i hi (by omega)
   have h2 := (hrow i (by omega)).2.1
   have := ((hrow i (by omega)).2.2.2.2.2.2 a' e1).2 j (by omega)
   rw [e1]
   simp only [Option.getD_some]
   rw [e2, add_plain] at this
   exact this
  ·dsimp only at hj hi ⊢
   obtain ⟨_, h2, _, h4, h5, _, _⟩ := hrow j (by omega)
   have hlt : i < (Z j).length := by omega
   have : (Z j).getD i 0 ∈ Z j := by simp [List.getD, List.getElem?_eq_getElem hlt]
   exact bounds_i64 (h5 _ this)
end
section
open Go.RowKit
/-- The cells of an array of 64 bools. -/
def arr (f : Nat → Bool) : Array Value := Array.ofFn (n := 64) fun i => .bool (f i.val)

theorem arr_size (f : Nat → Bool) : (arr f).size = 64 := by simp [arr]
theorem arr_one (f : Nat → Bool) : (arr f).all (·.oneCell') = true := by
 rw [Array.all_eq_true]; intro i hi; simp [arr]; rfl
theorem arr_get (f : Nat → Bool) (i : Nat) (h : i < 64) : (arr f)[i]? = some (.bool (f i)) := by
 simp [arr, h]
theorem arr_set (f : Nat → Bool) (k : Nat) (b : Bool) : (arr f).setIfInBounds k (.bool b) = arr (fun i => if i = k then b else f i) := by
 apply Array.ext_getElem?
 intro i
 rw [Array.getElem?_setIfInBounds, arr_size]
 by_cases hi : i < 64
 ·rw [arr_get _ _ hi, arr_get _ _ hi]
  by_cases h : k = i
  ·subst h; simp [hi]
  ·have h' : ¬ i = k := fun e => h e.symm
   simp [h, h']
 ·have e1 : (arr f)[i]? = none := by simp [arr_size]; omega
  have e2 : (arr (fun i => if i = k then b else f i))[i]? = none := by simp [arr_size]; omega
  rw [e1, e2]
  by_cases h : k = i
  ·subst h; simp [hi]
  ·simp [h]
theorem arr_ext {f g : Nat → Bool} (h : ∀ i, i < 64 → f i = g i) : arr f = arr g := by
 apply Array.ext
 ·simp [arr]
 ·intro i h1 h2
  have : i < 64 := by simpa [arr] using h1
  simp [arr, h i this]
theorem arr_zero : arr (fun _ => false) = Array.replicate 64 (.bool false) := by
 apply Array.ext
 ·simp [arr]
 ·intro i h1 h2; simp [arr]

/-- The number of the first bits. -/
def val (f : Nat → Bool) : Nat → Nat
 | 0 => 0
 | k + 1 => val f k + if f k then 2 ^ k else 0

theorem val_testBit (u : Nat) : ∀ k, val (fun i => u.testBit i) k = u % 2 ^ k
 | 0 => by simp [val, Nat.mod_one]
 | k + 1 => by
  rw [val, val_testBit u k, Nat.mod_pow_succ, Nat.testBit_eq_decide_div_mod_eq]
  rcases Nat.mod_two_eq_zero_or_one (u / 2 ^ k) with h | h <;> simp [h]

theorem val_all (u : Nat) (h : u < 18446744073709551616) : val (fun i => u.testBit i) 64 = u := by
 rw [val_testBit]; exact Nat.mod_eq_of_lt h

theorem half_bit (a : Int) (k : Nat) (hk : k < 64) : (toU a).testBit k = decide (a / 2 ^ k % 2 = 1) := by
 have hM : (18446744073709551616 : Int) = 2 ^ k * (2 * 2 ^ (63 - k)) := by
  have : (18446744073709551616 : Int) = 2 ^ 64 := by decide
  rw [this, show (64 : Nat) = k + (1 + (63 - k)) by omega, Int.pow_add, Int.pow_add]; simp
 have h1 : a % 18446744073709551616 = a + 2 ^ k * (-(2 * 2 ^ (63 - k) * (a / 18446744073709551616))) := by
  have h := Int.emod_add_mul_ediv a 18446744073709551616
  have e : (18446744073709551616 : Int) * (a / 18446744073709551616) = 2 ^ k * (2 * 2 ^ (63 - k) * (a / 18446744073709551616)) := by
   rw [← Int.mul_assoc, ← hM]
  rw [Int.mul_neg, ← e]; omega
 have h2 : a % 18446744073709551616 / 2 ^ k = a / 2 ^ k + -(2 * 2 ^ (63 - k) * (a / 18446744073709551616)) := by
  rw [h1, Int.add_mul_ediv_left _ _ (by have : (0 : Int) < 2 ^ k := Int.pow_pos (by decide); omega)]
 have h3 : (a / 2 ^ k + -(2 * 2 ^ (63 - k) * (a / 18446744073709551616))) % 2 = a / 2 ^ k % 2 := by
  rw [Int.mul_assoc]
  generalize 2 ^ (63 - k) * (a / 18446744073709551616) = d
  generalize a / 2 ^ k = n
  omega
 rw [Nat.testBit_eq_decide_div_mod_eq]
 congr 1
 apply propext
 have h4 : ((toU a / 2 ^ k % 2 : Nat) : Int) = a / 2 ^ k % 2 := by
  push_cast
  rw [toU_cast, h2, h3]
 omega

theorem half_next (a : Int) (k : Nat) : a / 2 ^ (k + 1) = a / 2 ^ k / 2 := by
 rw [Int.pow_succ, Int.ediv_ediv_of_nonneg (by have : (0 : Int) < 2 ^ k := Int.pow_pos (by decide); omega)]
theorem info29 : (Try.prog.info? 123).map (·.size) = some 64 := by kernel_rfl
theorem info_arr (f : Nat → Bool) : (Try.prog.info? 123).map (·.size) = some (arr f).size := by rw [arr_size]; exact info29

theorem setRow_alloc2 (w : World) (c c' : Array Value) (t : TypeId) (o : Obj) :
  ((w.alloc (.cells c t)).alloc o).setRow w.heap.size c' = (w.alloc (.cells c' t)).alloc o := by
 simp only [World.setRow, World.alloc]
 congr 1
 apply Array.ext_getElem?
 intro i
 rw [Array.getElem?_modify]
 by_cases h : w.heap.size = i
 ·subst h
  simp [Array.getElem?_push]
 ·have h' : ¬ i = w.heap.size := fun e => h e.symm
  simp [h, h', Array.getElem?_push]

/-- The first bits of a number, the others not yet. -/
def part (u k : Nat) : Array Value := arr (fun i => decide (i < k) && u.testBit i)

theorem part_zero (u : Nat) : part u 0 = Array.replicate 64 (.bool false) := by
 rw [← arr_zero]; exact arr_ext fun i _ => by simp
theorem part_all (u : Nat) : part u 64 = arr (fun i => u.testBit i) := arr_ext fun i hi => by simp [hi]
theorem part_next (u k : Nat) (b : Bool) (h : u.testBit k = b) : (part u k).setIfInBounds k (.bool b) = part u (k + 1) := by
 unfold part
 rw [arr_set]
 apply arr_ext
 intro i hi
 by_cases e : i = k
 ·subst e; simp [h]
 ·have : (i < k + 1) ↔ (i < k) := by omega
  simp [e, this]

set_option maxHeartbeats 400000 in
theorem bits_calls (a : Int) (h0 : -9223372036854775808 ≤ a) (h1 : a ≤ 9223372036854775807) (w : World) :
  Calls Try.prog 69 #[.int .i64 a] w fun e w' => e = .returned (.agg (arr (fun i => (toU a).testBit i))) ∧ More w w' := by
 rw [← part_all]
 go_enter Try.func69, Try.ntmps69
 go_wp2
 go_loopg [0, 4] 64 (fun g n i wr => ∃ (k : Nat) (m : Int), k + g = 64 ∧ a / 2 ^ k = m ∧ -9223372036854775808 ≤ m ∧ m ≤ 9223372036854775807 ∧ i = .int .i64 k ∧ n = .int .i64 m ∧ wr = (w.alloc (.cells (part (toU a) 0) 123)).alloc (.cells (part (toU a) k) 123))
 case atStart => exact ⟨0, a, by omega, by simp, h0, h1, rfl, rfl, by rw [part_zero]; rfl⟩
 case round =>
  obtain ⟨k, n, hkg, hn, b0, b1, rfl, rfl, rfl⟩ := hrel
  cases gk with
  | zero =>
   obtain rfl : k = 64 := by omega
   have hi29 : (Try.prog.info? 123).map (·.size) = some (part (toU a) 64).size := info_arr _
   have hg1 := heap_alloc2_new w (.cells (part (toU a) 0) 123) (.cells (part (toU a) 64) 123)
   have hg0 := heap_alloc2_old w (.cells (part (toU a) 0) 123) (.cells (part (toU a) 64) 123)
   have hold : (part (toU a) 0).size = (part (toU a) 64).size := by unfold part; rw [arr_size, arr_size]
   have hall : (part (toU a) 64).all (·.oneCell') = true := arr_one _
   go_wp2_with (first | (refine wpList_load_row rfl 123 (.tmp 3) rfl (w.heap.size + 1) rfl 123 _ (0, 0) _ hg1 Try.underlying123 rfl hi29 ?_) | (refine wpList_store_row rfl 123 (.tmp 2) (.tmp 24) rfl w.heap.size _ rfl rfl 123 _ hg0 hi29 hold hall ?_; rw [setRow_alloc2]))
   refine bodyPost_ret (results_cell_row rfl _ _ w.heap.size 123 (part (toU a) 64) (0, 0) _ rfl (heap_alloc2_old _ _ _) Try.underlying123 rfl hi29) rfl ⟨rfl, by repeat (first | exact More.refl _ | apply More.drew | apply More.alloc)⟩
  | succ g =>
   have hk : k < 64 := by omega
   have hk' : (k : Int) < 64 := by omega
   have hb := half_bit a k hk
   have hnx := half_next a k
   rw [hn] at hb hnx
   have hcs : (part (toU a) k)[k]? = some (.bool false) := by
    unfold part; rw [arr_get _ _ hk]; simp
   have hsz : (part (toU a) k).size = 64 := by unfold part; exact arr_size _
   have Hb : Hid ((toU a).testBit k = decide (n % 2 = 1)) := hb
   have Hx : Hid (a / 2 ^ (k + 1) = n / 2) := hnx
   clear hb hnx
   by_cases hr : n % 2 = 0
   ·have hr1 : n.tmod 2 = 0 := Int.tmod_eq_zero_of_dvd (Int.dvd_of_emod_eq_zero hr)
    have hd : n.tdiv 2 = n / 2 := Int.tdiv_eq_ediv_of_dvd (Int.dvd_of_emod_eq_zero hr)
    go_wp2
    go_roundg g
    case measure => omega
    case rel => exact ⟨k + 1, n / 2, by omega, Hx.out, by omega, by omega, by first | rfl | simp, rfl, by rw [← part_next (toU a) k false (by rw [Hb.out]; simp [hr])]⟩
   ·have hs : (n - 1).tdiv 2 = n / 2 := by rw [Int.tdiv_eq_ediv_of_dvd (by omega)]; omega
    by_cases hp : 0 ≤ n
    ·have hr1 : n.tmod 2 = 1 := by rw [Int.tmod_eq_emod_of_nonneg hp]; omega
     go_wp2
     go_roundg g
     case measure => omega
     case rel => exact ⟨k + 1, n / 2, by omega, Hx.out, by omega, by omega, by first | rfl | simp, rfl, by rw [← part_next (toU a) k true (by rw [Hb.out]; simp; omega)]⟩
    ·have hr1 : n.tmod 2 = -1 := by rw [Int.tmod_eq_emod, if_neg (by omega)]; omega
     go_wp2
     go_roundg g
     case measure => omega
     case rel => exact ⟨k + 1, n / 2, by omega, Hx.out, by omega, by omega, by first | rfl | simp, rfl, by rw [← part_next (toU a) k true (by rw [Hb.out]; simp; omega)]⟩

theorem wrap_sum (x y : Int) : wrap64 (wrap64 x + wrap64 y) = wrap64 (x + y) := by unfold wrap64; omega

theorem val_yes (f : Nat → Bool) (k : Nat) (s p : Int) (hs : s = wrap64 (val f k : Nat)) (hp : p = wrap64 ((2 ^ k : Nat) : Int)) (h : f k = true) : wrap64 (s + p) = wrap64 (val f (k + 1) : Nat) := by
 subst hs; subst hp
 rw [wrap_sum, val, if_pos h]; push_cast; rfl
theorem val_no (f : Nat → Bool) (k : Nat) (s : Int) (hs : s = wrap64 (val f k : Nat)) (h : f k = false) : s = wrap64 (val f (k + 1) : Nat) := by
 rw [hs, val, h]; simp
theorem pow_next (k : Nat) (p : Int) (hp : p = wrap64 ((2 ^ k : Nat) : Int)) : wrap64 (p + p) = wrap64 ((2 ^ (k + 1) : Nat) : Int) := by
 subst hp
 rw [wrap_sum, Nat.pow_succ]; push_cast; congr 1; omega

set_option maxHeartbeats 400000 in
theorem of_cells (f : Nat → Bool) (c : Array Value) (hsz : c.size = 64) (hc : ∀ i, i < 64 → c[i]? = some (.bool (f i))) (w : World) :
  Calls Try.prog 83 #[.agg c] w fun e w' => e = .returned (.int .i64 (wrap64 ((val f 64 : Nat) : Int))) ∧ More w w' := by
 have Hc : Hid (∀ i, i < 64 → c[i]? = some (.bool (f i))) := hc
 clear hc
 go_enter Try.func83, Try.ntmps83
 go_wp2
 go_loopg [3, 4, 5] 64 (fun g sv pv i wr => ∃ (k : Nat) (s p : Int), k + g = 64 ∧ s = wrap64 ((val f k : Nat) : Int) ∧ p = wrap64 ((2 ^ k : Nat) : Int) ∧ sv = .int .i64 s ∧ pv = .int .i64 p ∧ i = .int .i64 k ∧ wr = w.alloc (.cells c 123))
 case atStart => exact ⟨0, 0, 1, by omega, by unfold val wrap64; omega, by unfold wrap64; omega, rfl, rfl, rfl, rfl⟩
 case round =>
  obtain ⟨k, s, p, hkg, hs, hp, rfl, rfl, rfl, rfl⟩ := hrel
  have Hs : Hid (s = wrap64 ((val f k : Nat) : Int)) := hs
  have Hp : Hid (p = wrap64 ((2 ^ k : Nat) : Int)) := hp
  clear hs hp
  cases gk with
  | zero =>
   obtain rfl : k = 64 := by omega
   go_wp2
   go_ret
   exact ⟨congrArg (fun n => Ending.returned (.int .i64 n)) Hs.out, by repeat (first | exact More.refl _ | apply More.drew | apply More.alloc)⟩
  | succ g =>
   have hk : k < 64 := by omega
   have hk' : (k : Int) < 64 := by omega
   cases hf : f k with
   | true =>
    have hcs : c[k]'(by omega) = .bool true := by have h := Hc.out k hk; rw [hf] at h; exact (Array.getElem?_eq_some_iff.1 h).2
    have Hf : Hid (f k = true) := hf
    clear hf
    go_wp2
    go_roundg g
    case measure => omega
    case rel => exact ⟨k + 1, _, _, by omega, val_yes f k s p Hs.out Hp.out Hf.out, pow_next k p Hp.out, rfl, rfl, by first | rfl | simp, rfl⟩
   | false =>
    have hcs : c[k]'(by omega) = .bool false := by have h := Hc.out k hk; rw [hf] at h; exact (Array.getElem?_eq_some_iff.1 h).2
    have Hf : Hid (f k = false) := hf
    clear hf
    go_wp2
    go_roundg g
    case measure => omega
    case rel => exact ⟨k + 1, _, _, by omega, val_no f k s Hs.out Hf.out, pow_next k p Hp.out, rfl, rfl, by first | rfl | simp, rfl⟩

theorem of_calls (f : Nat → Bool) (w : World) :
  Calls Try.prog 83 #[.agg (arr f)] w fun e w' => e = .returned (.int .i64 (wrap64 ((val f 64 : Nat) : Int))) ∧ More w w' :=
 of_cells f (arr f) (arr_size f) (fun i hi => arr_get f i hi) w
theorem bits_cells (a : Int) (h0 : -9223372036854775808 ≤ a) (h1 : a ≤ 9223372036854775807) (w : World) :
  Calls Try.prog 69 #[.int .i64 a] w fun e w' => ∃ c, e = .returned (.agg c) ∧ Hid (c = arr (fun i => (toU a).testBit i)) ∧ More w w' :=
 (bits_calls a h0 h1 w).mono fun _ _ h => ⟨_, h.1, rfl, h.2⟩

theorem info_of {c : Array Value} {f : Nat → Bool} (h : Hid (c = arr f)) : (Try.prog.info? 123).map (·.size) = some c.size := by rw [h.out]; exact info_arr f
theorem size_of {c : Array Value} {f : Nat → Bool} (h : Hid (c = arr f)) : 64 = c.size := by rw [h.out, arr_size]
theorem one_of {c : Array Value} {f : Nat → Bool} (h : Hid (c = arr f)) : c.all (·.oneCell') = true := by rw [h.out]; exact arr_one f
theorem get_of {c : Array Value} {f : Nat → Bool} (h : Hid (c = arr f)) (i : Nat) (hi : i < 64) : c[i]? = some (.bool (f i)) := by rw [h.out]; exact arr_get f i hi

/-- Three arrays of 64 bools, of which the last is the call's own to write. -/
structure St3 (w : World) (B1 B2 B3 : Nat) (c1 c2 c3 : Array Value) (wr : World) : Prop where
 one : wr.heap[B1]? = some (.cells c1 123 (0, 0))
 two : wr.heap[B2]? = some (.cells c2 123 (0, 0))
 three : wr.heap[B3]? = some (.cells c3 123 (0, 0))
 more : More w wr
 new : w.heap.size ≤ B3
 apart1 : B1 ≠ B3
 apart2 : B2 ≠ B3

theorem St3.set {w wr : World} {B1 B2 B3 : Nat} {c1 c2 c3 c4 : Array Value} (h : St3 w B1 B2 B3 c1 c2 c3 wr) (k : Nat) (v : Value) (e : c3.setIfInBounds k v = c4) :
  St3 w B1 B2 B3 c1 c2 c4 (wr.setCell ⟨B3, k, none⟩ v) := by
 subst e
 exact ⟨(heap_setCell_other _ _ _ _ h.apart1).trans h.one, (heap_setCell_other _ _ _ _ h.apart2).trans h.two, heap_setCell_same _ _ _ _ _ _ h.three, h.more.setCell h.new v, h.new, h.apart1, h.apart2⟩
theorem St3.drew {w wr : World} {B1 B2 B3 : Nat} {c1 c2 c3 : Array Value} (h : St3 w B1 B2 B3 c1 c2 c3 wr) : St3 w B1 B2 B3 c1 c2 c3 wr.drew :=
 ⟨h.one, h.two, h.three, h.more.drew, h.new, h.apart1, h.apart2⟩

theorem part_lit (u : Nat) : part u 0 = #[.bool false, .bool false, .bool false, .bool false, .bool false, .bool false, .bool false, .bool false, .bool false, .bool false, .bool false, .bool false, .bool false, .bool false, .bool false, .bool false, .bool false, .bool false, .bool false, .bool false, .bool false, .bool false, .bool false, .bool false, .bool false, .bool false, .bool false, .bool false, .bool false, .bool false, .bool false, .bool false, .bool false, .bool false, .bool false, .bool false, .bool false, .bool false, .bool false, .bool false, .bool false, .bool false, .bool false, .bool false, .bool false, .bool false, .bool false, .bool false, .bool false, .bool false, .bool false, .bool false, .bool false, .bool false, .bool false, .bool false, .bool false, .bool false, .bool false, .bool false, .bool false, .bool false, .bool false, .bool false] := (part_zero u).trans rfl

theorem St3.start {w w1 w2 : World} {c1 c2 c3 : Array Value} (m1 : More w w1) (m2 : More (w1.alloc (.cells c1 123)) w2) :
  St3 w w1.heap.size w2.heap.size (w2.heap.size + 1) c1 c2 c3 ((w2.alloc (.cells c2 123)).alloc (.cells c3 123)) := by
 have s1 : (w1.alloc (.cells c1 123)).heap.size = w1.heap.size + 1 := by simp
 have s2 : (w2.alloc (.cells c2 123)).heap.size = w2.heap.size + 1 := by simp
 have s3 := m2.size
 have s4 := m1.size
 refine ⟨?_, ?_, ?_, (((m1.alloc c1 123).trans m2).alloc c2 123).alloc c3 123, by omega, by omega, by omega⟩
 ·rw [Below.heap_alloc _ _ _ (by omega), Below.heap_alloc _ _ _ (by omega), m2.block _ (by omega)]; exact heap_alloc_last _ _
 ·rw [Below.heap_alloc _ _ _ (by omega)]; exact heap_alloc_last _ _
 ·rw [← s2]; exact heap_alloc_last _ _

theorem of_num (U : Nat) (h : U < 18446744073709551616) (w : World) :
  Calls Try.prog 83 #[.agg (arr (fun i => U.testBit i))] w fun e w' => e = .returned (.int .i64 (wrap64 (U : Int))) ∧ More w w' := by
 have := of_calls (fun i => U.testBit i) w
 rw [val_all U h] at this
 exact this

set_option maxHeartbeats 1000000 in
theorem bitwise_and (a b : Int) (U : Nat) (a0 : -9223372036854775808 ≤ a) (a1 : a ≤ 9223372036854775807) (b0 : -9223372036854775808 ≤ b) (b1 : b ≤ 9223372036854775807)
  (hU : Hid (U < 18446744073709551616)) (hB : Hid (∀ k, U.testBit k = ((toU a).testBit k && (toU b).testBit k))) (w : World) :
  Calls Try.prog 68 #[.int .i64 4, .int .i64 a, .int .i64 b] w fun e w' => e = .returned (.int .i64 (wrap64 (U : Int))) ∧ More w w' := by
 go_enter Try.func68, Try.ntmps68
 go_wp2_with (fail)
 refine (bits_cells a a0 a1 _).mono ?_
 rintro e w1 ⟨cx, rfl, hx, m1⟩
 go_wp2_with (refine wpList_store_row rfl 123 (.tmp 7) (.tmp 12) rfl _ _ rfl rfl 123 _ (heap_alloc_last _ _) (info_of hx) (size_of hx) (one_of hx) ?_; rw [World.setRow_alloc_new])
 refine (bits_cells b b0 b1 _).mono ?_
 rintro e w2 ⟨cy, rfl, hy, m2⟩
 go_wp2_with (refine wpList_store_row rfl 123 (.tmp 8) (.tmp 14) rfl _ _ rfl rfl 123 _ (heap_alloc_last _ _) (info_of hy) (size_of hy) (one_of hy) ?_; rw [World.setRow_alloc_new])
 have H0 := St3.start (c2 := cy) (c3 := part U 0) m1 m2
 go_loopg [10] 64 (fun g i wr => ∃ (k : Nat), k + g = 64 ∧ i = .int .i64 k ∧ St3 w w1.heap.size w2.heap.size (w2.heap.size + 1) cx cy (part U k) wr)
 case atStart =>
  refine ⟨0, by omega, rfl, ?_⟩
  rw [part_lit] at H0 ⊢
  exact H0
 case round =>
  obtain ⟨k, hkg, rfl, hst⟩ := hrel
  clear H0 m1 m2
  cases gk with
  | zero =>
   obtain rfl : k = 64 := by omega
   have hg := hst.three
   have hm := hst.more
   rw [part_all] at hg
   clear hst
   go_wp2_with (refine wpList_load_row rfl 123 (.tmp 9) rfl _ rfl 123 _ (0, 0) _ hg Try.underlying123 rfl (info_arr _) ?_)
   refine (of_num U hU.out _).mono ?_
   rintro e w3 ⟨rfl, m3⟩
   go_wp2
   go_ret
   exact ⟨rfl, hm.trans m3⟩
  | succ g =>
   have hk : k < 64 := by omega
   have hk' : (k : Int) < 64 := by omega
   have hb := hB.out k
   obtain ⟨x, ex⟩ : ∃ x, (toU a).testBit k = x := ⟨_, rfl⟩
   obtain ⟨y, ey⟩ : ∃ y, (toU b).testBit k = y := ⟨_, rfl⟩
   have c1 : wr.cell? ⟨w1.heap.size, k, none⟩ = some (.bool x) := by rw [cell_of_row _ _ _ _ _ _ hst.one, get_of hx k hk, ex]
   have c2 : wr.cell? ⟨w2.heap.size, k, none⟩ = some (.bool y) := by rw [cell_of_row _ _ _ _ _ _ hst.two, get_of hy k hk, ey]
   have c3 : wr.cell? ⟨w2.heap.size + 1, k, none⟩ = some (.bool false) := by rw [cell_of_row _ _ _ _ _ _ hst.three]; unfold part; rw [arr_get _ _ hk]; simp
   have f3 : wr.frozen? ⟨w2.heap.size + 1, k, none⟩ = false := frozen_of_row _ _ _ _ _ hst.three
   rw [ex, ey] at hb
   have Hb : Hid (U.testBit k = (x && y)) := hb
   have Hst : Hid (St3 w w1.heap.size w2.heap.size (w2.heap.size + 1) cx cy (part U k) wr) := hst
   clear hb ex ey hst
   cases x <;> cases y
   all_goals
    go_wp2
    go_roundg g
    case measure => omega
    case rel => exact ⟨k + 1, by omega, by first | rfl | simp, Hst.out.set k _ (part_next _ k _ Hb.out)⟩

set_option maxHeartbeats 1000000 in
theorem bitwise_or (a b : Int) (U : Nat) (a0 : -9223372036854775808 ≤ a) (a1 : a ≤ 9223372036854775807) (b0 : -9223372036854775808 ≤ b) (b1 : b ≤ 9223372036854775807)
  (hU : Hid (U < 18446744073709551616)) (hB : Hid (∀ k, U.testBit k = ((toU a).testBit k || (toU b).testBit k))) (w : World) :
  Calls Try.prog 68 #[.int .i64 5, .int .i64 a, .int .i64 b] w fun e w' => e = .returned (.int .i64 (wrap64 (U : Int))) ∧ More w w' := by
 go_enter Try.func68, Try.ntmps68
 go_wp2_with (fail)
 refine (bits_cells a a0 a1 _).mono ?_
 rintro e w1 ⟨cx, rfl, hx, m1⟩
 go_wp2_with (refine wpList_store_row rfl 123 (.tmp 7) (.tmp 12) rfl _ _ rfl rfl 123 _ (heap_alloc_last _ _) (info_of hx) (size_of hx) (one_of hx) ?_; rw [World.setRow_alloc_new])
 refine (bits_cells b b0 b1 _).mono ?_
 rintro e w2 ⟨cy, rfl, hy, m2⟩
 go_wp2_with (refine wpList_store_row rfl 123 (.tmp 8) (.tmp 14) rfl _ _ rfl rfl 123 _ (heap_alloc_last _ _) (info_of hy) (size_of hy) (one_of hy) ?_; rw [World.setRow_alloc_new])
 have H0 := St3.start (c2 := cy) (c3 := part U 0) m1 m2
 go_loopg [10] 64 (fun g i wr => ∃ (k : Nat), k + g = 64 ∧ i = .int .i64 k ∧ St3 w w1.heap.size w2.heap.size (w2.heap.size + 1) cx cy (part U k) wr)
 case atStart =>
  refine ⟨0, by omega, rfl, ?_⟩
  rw [part_lit] at H0 ⊢
  exact H0
 case round =>
  obtain ⟨k, hkg, rfl, hst⟩ := hrel
  clear H0 m1 m2
  cases gk with
  | zero =>
   obtain rfl : k = 64 := by omega
   have hg := hst.three
   have hm := hst.more
   rw [part_all] at hg
   clear hst
   go_wp2_with (refine wpList_load_row rfl 123 (.tmp 9) rfl _ rfl 123 _ (0, 0) _ hg Try.underlying123 rfl (info_arr _) ?_)
   refine (of_num U hU.out _).mono ?_
   rintro e w3 ⟨rfl, m3⟩
   go_wp2
   go_ret
   exact ⟨rfl, hm.trans m3⟩
  | succ g =>
   have hk : k < 64 := by omega
   have hk' : (k : Int) < 64 := by omega
   have hb := hB.out k
   obtain ⟨x, ex⟩ : ∃ x, (toU a).testBit k = x := ⟨_, rfl⟩
   obtain ⟨y, ey⟩ : ∃ y, (toU b).testBit k = y := ⟨_, rfl⟩
   have c1 : wr.cell? ⟨w1.heap.size, k, none⟩ = some (.bool x) := by rw [cell_of_row _ _ _ _ _ _ hst.one, get_of hx k hk, ex]
   have c2 : wr.cell? ⟨w2.heap.size, k, none⟩ = some (.bool y) := by rw [cell_of_row _ _ _ _ _ _ hst.two, get_of hy k hk, ey]
   have c3 : wr.cell? ⟨w2.heap.size + 1, k, none⟩ = some (.bool false) := by rw [cell_of_row _ _ _ _ _ _ hst.three]; unfold part; rw [arr_get _ _ hk]; simp
   have f3 : wr.frozen? ⟨w2.heap.size + 1, k, none⟩ = false := frozen_of_row _ _ _ _ _ hst.three
   rw [ex, ey] at hb
   have Hb : Hid (U.testBit k = (x || y)) := hb
   have Hst : Hid (St3 w w1.heap.size w2.heap.size (w2.heap.size + 1) cx cy (part U k) wr) := hst
   clear hb ex ey hst
   cases x <;> cases y
   all_goals
    go_wp2
    go_roundg g
    case measure => omega
    case rel => exact ⟨k + 1, by omega, by first | rfl | simp, Hst.out.set k _ (part_next _ k _ Hb.out)⟩

set_option maxHeartbeats 1000000 in
theorem bitwise_xor (a b : Int) (U : Nat) (a0 : -9223372036854775808 ≤ a) (a1 : a ≤ 9223372036854775807) (b0 : -9223372036854775808 ≤ b) (b1 : b ≤ 9223372036854775807)
  (hU : Hid (U < 18446744073709551616)) (hB : Hid (∀ k, U.testBit k = ((toU a).testBit k ^^ (toU b).testBit k))) (w : World) :
  Calls Try.prog 68 #[.int .i64 6, .int .i64 a, .int .i64 b] w fun e w' => e = .returned (.int .i64 (wrap64 (U : Int))) ∧ More w w' := by
 go_enter Try.func68, Try.ntmps68
 go_wp2_with (fail)
 refine (bits_cells a a0 a1 _).mono ?_
 rintro e w1 ⟨cx, rfl, hx, m1⟩
 go_wp2_with (refine wpList_store_row rfl 123 (.tmp 7) (.tmp 12) rfl _ _ rfl rfl 123 _ (heap_alloc_last _ _) (info_of hx) (size_of hx) (one_of hx) ?_; rw [World.setRow_alloc_new])
 refine (bits_cells b b0 b1 _).mono ?_
 rintro e w2 ⟨cy, rfl, hy, m2⟩
 go_wp2_with (refine wpList_store_row rfl 123 (.tmp 8) (.tmp 14) rfl _ _ rfl rfl 123 _ (heap_alloc_last _ _) (info_of hy) (size_of hy) (one_of hy) ?_; rw [World.setRow_alloc_new])
 have H0 := St3.start (c2 := cy) (c3 := part U 0) m1 m2
 go_loopg [10] 64 (fun g i wr => ∃ (k : Nat), k + g = 64 ∧ i = .int .i64 k ∧ St3 w w1.heap.size w2.heap.size (w2.heap.size + 1) cx cy (part U k) wr)
 case atStart =>
  refine ⟨0, by omega, rfl, ?_⟩
  rw [part_lit] at H0 ⊢
  exact H0
 case round =>
  obtain ⟨k, hkg, rfl, hst⟩ := hrel
  clear H0 m1 m2
  cases gk with
  | zero =>
   obtain rfl : k = 64 := by omega
   have hg := hst.three
   have hm := hst.more
   rw [part_all] at hg
   clear hst
   go_wp2_with (refine wpList_load_row rfl 123 (.tmp 9) rfl _ rfl 123 _ (0, 0) _ hg Try.underlying123 rfl (info_arr _) ?_)
   refine (of_num U hU.out _).mono ?_
   rintro e w3 ⟨rfl, m3⟩
   go_wp2
   go_ret
   exact ⟨rfl, hm.trans m3⟩
  | succ g =>
   have hk : k < 64 := by omega
   have hk' : (k : Int) < 64 := by omega
   have hb := hB.out k
   obtain ⟨x, ex⟩ : ∃ x, (toU a).testBit k = x := ⟨_, rfl⟩
   obtain ⟨y, ey⟩ : ∃ y, (toU b).testBit k = y := ⟨_, rfl⟩
   have c1 : wr.cell? ⟨w1.heap.size, k, none⟩ = some (.bool x) := by rw [cell_of_row _ _ _ _ _ _ hst.one, get_of hx k hk, ex]
   have c2 : wr.cell? ⟨w2.heap.size, k, none⟩ = some (.bool y) := by rw [cell_of_row _ _ _ _ _ _ hst.two, get_of hy k hk, ey]
   have c3 : wr.cell? ⟨w2.heap.size + 1, k, none⟩ = some (.bool false) := by rw [cell_of_row _ _ _ _ _ _ hst.three]; unfold part; rw [arr_get _ _ hk]; simp
   have f3 : wr.frozen? ⟨w2.heap.size + 1, k, none⟩ = false := frozen_of_row _ _ _ _ _ hst.three
   rw [ex, ey] at hb
   have Hb : Hid (U.testBit k = (x ^^ y)) := hb
   have Hst : Hid (St3 w w1.heap.size w2.heap.size (w2.heap.size + 1) cx cy (part U k) wr) := hst
   clear hb ex ey hst
   cases x <;> cases y
   all_goals
    go_wp2
    go_region
    go_wp2
    go_roundg g
    case measure => omega
    case rel => exact ⟨k + 1, by omega, by first | rfl | simp, (Hst.out.set k _ (part_next _ k _ Hb.out)).drew⟩
theorem below_apart (a b : Int) (v : Bool) (ha : decide (a < 0) = !v) (hb : decide (b < 0) = v) (w : World) :
  Calls Try.prog 54 #[.int .i64 a, .int .i64 b] w fun e w' => e = .returned (.bool v) ∧ w' = w := by
 cases v
 all_goals
  go_enter Try.func54, Try.ntmps54
  go_wp2
  go_ret
  exact ⟨rfl, rfl⟩
theorem below_same (a b : Int) (v : Bool) (ha : decide (a < 0) = v) (hb : decide (b < 0) = v) (w : World) :
  Calls Try.prog 54 #[.int .i64 a, .int .i64 b] w fun e w' => e = .returned (.bool (decide (a < b))) ∧ w' = w := by
 cases v
 all_goals
  go_enter Try.func54, Try.ntmps54
  go_wp2
  go_ret
  exact ⟨rfl, rfl⟩

theorem below_calls (a b : Int) (a0 : -9223372036854775808 ≤ a) (a1 : a ≤ 9223372036854775807) (b0 : -9223372036854775808 ≤ b) (b1 : b ≤ 9223372036854775807) (w : World) :
  Calls Try.prog 54 #[.int .i64 a, .int .i64 b] w fun e w' => e = .returned (.bool (decide (toU a < toU b))) ∧ w' = w := by
 by_cases ha : a < 0 <;> by_cases hb : b < 0
 ·rw [show decide (toU a < toU b) = decide (a < b) by rw [decide_eq_decide]; unfold toU; omega]
  exact below_same a b true (by simp [ha]) (by simp [hb]) w
 ·rw [show decide (toU a < toU b) = false by rw [decide_eq_false_iff_not]; unfold toU; omega]
  exact below_apart a b false (by simp [ha]) (by simp; omega) w
 ·rw [show decide (toU a < toU b) = true by rw [decide_eq_true_iff]; unfold toU; omega]
  exact below_apart a b true (by simp; omega) (by simp [hb]) w
 ·rw [show decide (toU a < toU b) = decide (a < b) by rw [decide_eq_decide]; unfold toU; omega]
  exact below_same a b false (by simp; omega) (by simp; omega) w

theorem part_skip (u k : Nat) (h : u.testBit k = false) : part u k = part u (k + 1) := by
 unfold part
 apply arr_ext
 intro i hi
 by_cases e : i = k
 ·subst e; simp [h]
 ·have : (i < k + 1) ↔ (i < k) := by omega
  simp [this]

theorem St3.start2 {w w1 : World} {c1 c3 : Array Value} (m1 : More w w1) :
  St3 w w1.heap.size w1.heap.size (w1.heap.size + 1) c1 c1 c3 ((w1.alloc (.cells c1 123)).alloc (.cells c3 123)) := by
 have s1 : (w1.alloc (.cells c1 123)).heap.size = w1.heap.size + 1 := by simp
 have s4 := m1.size
 have h1 : ((w1.alloc (.cells c1 123)).alloc (.cells c3 123)).heap[w1.heap.size]? = some (.cells c1 123 (0, 0)) := by
  rw [Below.heap_alloc _ _ _ (by omega)]; exact heap_alloc_last _ _
 refine ⟨h1, h1, ?_, (m1.alloc c1 123).alloc c3 123, by omega, by omega, by omega⟩
 rw [← s1]; exact heap_alloc_last _ _

set_option maxHeartbeats 1000000 in
theorem shift_calls (a s : Int) (U : Nat) (a0 : -9223372036854775808 ≤ a) (a1 : a ≤ 9223372036854775807) (s0 : -63 ≤ s) (s1 : s ≤ 63)
  (hU : Hid (U < 18446744073709551616)) (hB : Hid (∀ k : Nat, k < 64 → U.testBit k = (decide (0 ≤ (k : Int) - s ∧ (k : Int) - s < 64) && (toU a).testBit ((k : Int) - s).toNat))) (w : World) :
  Calls Try.prog 70 #[.int .i64 a, .int .i64 s] w fun e w' => e = .returned (.int .i64 (wrap64 (U : Int))) ∧ More w w' := by
 go_enter Try.func70, Try.ntmps70
 go_wp2_with (fail)
 refine (bits_cells a a0 a1 _).mono ?_
 rintro e w1 ⟨cx, rfl, hx, m1⟩
 go_wp2_with (refine wpList_store_row rfl 123 (.tmp 5) (.tmp 9) rfl _ _ rfl rfl 123 _ (heap_alloc_last _ _) (info_of hx) (size_of hx) (one_of hx) ?_; rw [World.setRow_alloc_new])
 have H0 := St3.start2 (c1 := cx) (c3 := part U 0) m1
 go_loopg [7] 64 (fun g i wr => ∃ (k : Nat), k + g = 64 ∧ i = .int .i64 k ∧ St3 w w1.heap.size w1.heap.size (w1.heap.size + 1) cx cx (part U k) wr)
 case atStart =>
  refine ⟨0, by omega, rfl, ?_⟩
  rw [part_lit] at H0 ⊢
  exact H0
 case round =>
  obtain ⟨k, hkg, rfl, hst⟩ := hrel
  clear H0 m1
  cases gk with
  | zero =>
   obtain rfl : k = 64 := by omega
   have hg := hst.three
   have hm := hst.more
   rw [part_all] at hg
   clear hst
   go_wp2_with (refine wpList_load_row rfl 123 (.tmp 6) rfl _ rfl 123 _ (0, 0) _ hg Try.underlying123 rfl (info_arr _) ?_)
   refine (of_num U hU.out _).mono ?_
   rintro e w3 ⟨rfl, m3⟩
   go_wp2
   go_ret
   exact ⟨rfl, hm.trans m3⟩
  | succ g =>
   have hk : k < 64 := by omega
   have hk' : (k : Int) < 64 := by omega
   have hb := hB.out k hk
   have c3 : wr.cell? ⟨w1.heap.size + 1, k, none⟩ = some (.bool false) := by rw [cell_of_row _ _ _ _ _ _ hst.three]; unfold part; rw [arr_get _ _ hk]; simp
   have f3 : wr.frozen? ⟨w1.heap.size + 1, k, none⟩ = false := frozen_of_row _ _ _ _ _ hst.three
   have Hst : Hid (St3 w w1.heap.size w1.heap.size (w1.heap.size + 1) cx cx (part U k) wr) := hst
   by_cases h1 : 0 ≤ (k : Int) - s
   ·by_cases h2 : (k : Int) - s < 64
    ·obtain ⟨j, hj⟩ : ∃ j : Nat, (k : Int) - s = (j : Int) := ⟨((k : Int) - s).toNat, by omega⟩
     have hj64 : j < 64 := by omega
     have hjI : (j : Int) < 64 := by omega
     obtain ⟨x, ex⟩ : ∃ x, (toU a).testBit j = x := ⟨_, rfl⟩
     have c1 : wr.cell? ⟨w1.heap.size, j, none⟩ = some (.bool x) := by rw [cell_of_row _ _ _ _ _ _ hst.one, get_of hx j hj64, ex]
     rw [hj, Int.toNat_natCast, ex, decide_eq_true (by omega), Bool.true_and] at hb
     have Hb : Hid (U.testBit k = x) := hb
     clear hb ex hst h1 h2
     go_wp2
     go_roundg g
     case measure => omega
     case rel => exact ⟨k + 1, by omega, by first | rfl | simp, Hst.out.set k _ (part_next _ k _ Hb.out)⟩
    ·rw [decide_eq_false (by omega), Bool.false_and] at hb
     have Hb : Hid (U.testBit k = false) := hb
     clear hb hst
     go_wp2
     go_roundg g
     case measure => omega
     case rel => exact ⟨k + 1, by omega, by first | rfl | simp, part_skip _ k Hb.out ▸ Hst.out⟩
   ·rw [decide_eq_false (by omega), Bool.false_and] at hb
    have Hb : Hid (U.testBit k = false) := hb
    clear hb hst
    go_wp2
    go_roundg g
    case measure => omega
    case rel => exact ⟨k + 1, by omega, by first | rfl | simp, part_skip _ k Hb.out ▸ Hst.out⟩
/-- The upper bits of a number, the others not yet. -/
def top (u g : Nat) : Array Value := arr (fun i => decide (g ≤ i) && u.testBit i)
theorem top_start (u : Nat) : top u 64 = part u 0 := arr_ext fun i hi => by
 have : ¬ 64 ≤ i := by omega
 simp [this]
theorem top_all (u : Nat) : top u 0 = arr (fun i => u.testBit i) := arr_ext fun i _ => by simp
theorem top_next (u g : Nat) (b : Bool) (h : u.testBit g = b) : (top u (g + 1)).setIfInBounds g (.bool b) = top u g := by
 unfold top
 rw [arr_set]
 apply arr_ext
 intro i hi
 by_cases e : i = g
 ·subst e; simp [h]
 ·have : (g + 1 ≤ i) ↔ (g ≤ i) := by omega
  simp [e, this]
theorem top_skip (u g : Nat) (h : u.testBit g = false) : top u (g + 1) = top u g := by
 unfold top
 apply arr_ext
 intro i hi
 by_cases e : i = g
 ·subst e; simp [h]
 ·have : (g + 1 ≤ i) ↔ (g ≤ i) := by omega
  simp [this]

theorem step_num (T x B : Nat) (hB : 0 < B) (hx : x < 2) :
  (2 * T + x) % B = (if B ≤ 2 * (T % B) + x then 2 * (T % B) + x - B else 2 * (T % B) + x) ∧ (2 * T + x) / B % 2 = (if B ≤ 2 * (T % B) + x then 1 else 0) := by
 have h1 := Nat.div_add_mod T B
 have h2 := Nat.mod_lt T hB
 generalize T % B = r at *
 generalize T / B = q at *
 have e : 2 * T + x = (2 * r + x) + B * (2 * q) := by
  rw [← h1, Nat.mul_left_comm B 2 q]; omega
 rw [e, Nat.add_mul_mod_self_left, Nat.add_mul_div_left _ _ hB]
 split
 ·rename_i h
  have e2 : 2 * r + x = (2 * r + x - B) + B * 1 := by omega
  constructor
  ·rw [e2, Nat.add_mul_mod_self_left, Nat.mod_eq_of_lt (by omega)]; omega
  ·rw [e2, Nat.add_mul_div_left _ _ hB, Nat.div_eq_of_lt (by omega)]; omega
 ·rename_i h
  constructor
  ·exact Nat.mod_eq_of_lt (by omega)
  ·rw [Nat.div_eq_of_lt (by omega)]; omega

theorem bit_down (A g : Nat) : A / 2 ^ g = 2 * (A / 2 ^ (g + 1)) + (A.testBit g).toNat := by
 rw [Nat.pow_succ, ← Nat.div_div_eq_div_mul, Nat.testBit_eq_decide_div_mod_eq]
 generalize A / 2 ^ g = n
 rcases Nat.mod_two_eq_zero_or_one n with h | h <;> simp [h] <;> omega

/-- What is left over ahead of the bit g. -/
def left (A B g : Nat) : Nat := A / 2 ^ g % B

theorem left_start (A B : Nat) (h : A < 18446744073709551616) : left A B 64 = 0 := by
 unfold left; rw [Nat.div_eq_of_lt (by simpa using h)]; simp
theorem left_end (A B : Nat) : left A B 0 = A % B := by unfold left; simp
theorem left_lt (A B g : Nat) (hB : 0 < B) : left A B g < B := Nat.mod_lt _ hB
theorem left_next (A B g : Nat) (hB : 0 < B) : left A B g = if B ≤ 2 * left A B (g + 1) + (A.testBit g).toNat then 2 * left A B (g + 1) + (A.testBit g).toNat - B else 2 * left A B (g + 1) + (A.testBit g).toNat := by
 unfold left
 rw [bit_down A g]
 exact (step_num _ _ _ hB (Bool.toNat_lt _)).1
theorem quo_bit (A B g : Nat) (hB : 0 < B) : (A / B).testBit g = decide (B ≤ 2 * left A B (g + 1) + (A.testBit g).toNat) := by
 rw [Nat.testBit_eq_decide_div_mod_eq, Nat.div_div_eq_div_mul, Nat.mul_comm, ← Nat.div_div_eq_div_mul, bit_down A g, (step_num _ _ _ hB (Bool.toNat_lt _)).2]
 unfold left
 by_cases h : B ≤ 2 * (A / 2 ^ (g + 1) % B) + (A.testBit g).toNat <;> simp [h]

theorem word_neg (r : Nat) (h : r < 18446744073709551616) : wrap64 (r : Int) < 0 ↔ 9223372036854775808 ≤ r := by unfold wrap64; omega
theorem word_two (r : Nat) : wrap64 (wrap64 (r : Int) + wrap64 (r : Int)) = wrap64 ((2 * r : Nat) : Int) := by unfold wrap64; omega
theorem word_one (r : Nat) : wrap64 (wrap64 (r : Int) + 1) = wrap64 ((r + 1 : Nat) : Int) := by unfold wrap64; omega
theorem word_less (n : Nat) (b : Int) (h : toU b ≤ n) : wrap64 (wrap64 (n : Int) - b) = wrap64 ((n - toU b : Nat) : Int) := by
 have := toU_cast b
 unfold wrap64; omega
theorem word_toU (n : Nat) (h : n < 18446744073709551616) : toU (wrap64 (n : Int)) = n := by unfold toU wrap64; omega
theorem word_low (n : Int) : -9223372036854775808 ≤ wrap64 n := by unfold wrap64; omega
theorem word_high (n : Int) : wrap64 n ≤ 9223372036854775807 := by unfold wrap64; omega

set_option maxHeartbeats 2000000 in
theorem divide_calls (a b : Int) (a0 : -9223372036854775808 ≤ a) (a1 : a ≤ 9223372036854775807) (b0 : -9223372036854775808 ≤ b) (b1 : b ≤ 9223372036854775807) (hb : Hid (0 < toU b)) (w : World) :
  Calls Try.prog 71 #[.int .i64 a, .int .i64 b] w fun e w' => e = .returned (.tuple #[.int .i64 (wrap64 ((toU a / toU b : Nat) : Int)), .int .i64 (wrap64 ((toU a % toU b : Nat) : Int))]) ∧ More w w' := by
 obtain ⟨Q, hQ⟩ : ∃ Q, Hid (toU a / toU b = Q) := ⟨_, rfl⟩
 obtain ⟨M, hM⟩ : ∃ M, Hid (wrap64 ((toU a % toU b : Nat) : Int) = M) := ⟨_, rfl⟩
 rw [hQ.out, hM.out]
 go_enter Try.func71, Try.ntmps71
 go_wp2_with (fail)
 refine (bits_cells a a0 a1 _).mono ?_
 rintro e w1 ⟨cx, rfl, hx, m1⟩
 go_wp2_with (refine wpList_store_row rfl 123 (.tmp 6) (.tmp 12) rfl _ _ rfl rfl 123 _ (heap_alloc_last _ _) (info_of hx) (size_of hx) (one_of hx) ?_; rw [World.setRow_alloc_new])
 have H0 := St3.start2 (c1 := cx) (c3 := part Q 0) m1
 go_loopg [8, 9] 64 (fun g r i wr => ∃ (rv : Int), g ≤ 64 ∧ Hid (rv = wrap64 ((left (toU a) (toU b) g : Nat) : Int)) ∧ i = .int .i64 ((g : Int) - 1) ∧ r = .int .i64 rv ∧ St3 w w1.heap.size w1.heap.size (w1.heap.size + 1) cx cx (top Q g) wr)
 case atStart =>
  refine ⟨0, by omega, ?_, rfl, rfl, ?_⟩
  ·show (0 : Int) = _
   rw [left_start _ _ (toU_lt a)]; unfold wrap64; omega
  ·rw [top_start]
   rw [part_lit] at H0 ⊢
   exact H0
 case round =>
  obtain ⟨rv, hg64, hrv, rfl, rfl, hst⟩ := hrel
  clear H0 m1
  cases gk with
  | zero =>
   have hg := hst.three
   have hm := hst.more
   rw [top_all] at hg
   have hQl : Hid (Q < 18446744073709551616) := by
    show Q < 18446744073709551616
    rw [← hQ.out]; exact Nat.lt_of_le_of_lt (Nat.div_le_self _ _) (toU_lt a)
   have hr2 : Hid (rv = M) := by
    show rv = M
    rw [hrv.out, left_end, hM.out]
   clear hst
   go_wp2_with (refine wpList_load_row rfl 123 (.tmp 7) rfl _ rfl 123 _ (0, 0) _ hg Try.underlying123 rfl (info_arr _) ?_)
   refine (of_num Q hQl.out _).mono ?_
   rintro e w3 ⟨rfl, m3⟩
   go_wp2
   go_ret2
   exact ⟨by rw [← hr2.out]; rfl, hm.trans m3⟩
  | succ g =>
   have hk : g < 64 := by omega
   have hk' : (g : Int) < 64 := by omega
   have eg : (((g + 1 : Nat)) : Int) - 1 = (g : Int) := by omega
   rw [eg]
   have hR := left_lt (toU a) (toU b) (g + 1) hb.out
   have hRB := toU_lt b
   obtain ⟨x, ex⟩ : ∃ x, (toU a).testBit g = x := ⟨_, rfl⟩
   have c1 : wr.cell? ⟨w1.heap.size, g, none⟩ = some (.bool x) := by rw [cell_of_row _ _ _ _ _ _ hst.one, get_of hx g hk, ex]
   have c3 : wr.cell? ⟨w1.heap.size + 1, g, none⟩ = some (.bool false) := by rw [cell_of_row _ _ _ _ _ _ hst.three]; unfold top; rw [arr_get _ _ hk]; simp; omega
   have f3 : wr.frozen? ⟨w1.heap.size + 1, g, none⟩ = false := frozen_of_row _ _ _ _ _ hst.three
   have Hst : Hid (St3 w w1.heap.size w1.heap.size (w1.heap.size + 1) cx cx (top Q (g + 1)) wr) := hst
   clear hst eg
   obtain ⟨r2, h2⟩ : ∃ r, wrap64 (rv + rv) = r := ⟨_, rfl⟩
   have H2 : Hid (r2 = wrap64 ((2 * left (toU a) (toU b) (g + 1) : Nat) : Int)) := by
    show r2 = _
    rw [← h2, hrv.out]; exact word_two _
   have r20 : -9223372036854775808 ≤ r2 := h2 ▸ word_low _
   have r21 : r2 ≤ 9223372036854775807 := h2 ▸ word_high _
   cases x with
   | true =>
    have HX : Hid ((toU a).testBit g = true) := ex
    clear ex
    obtain ⟨r3, h3⟩ : ∃ r, wrap64 (r2 + 1) = r := ⟨_, rfl⟩
    have H3 : Hid (r3 = wrap64 ((2 * left (toU a) (toU b) (g + 1) + 1 : Nat) : Int)) := by
     show r3 = _
     rw [← h3, H2.out]; exact word_one _
    have r30 : -9223372036854775808 ≤ r3 := h3 ▸ word_low _
    have r31 : r3 ≤ 9223372036854775807 := h3 ▸ word_high _
    by_cases hov : 9223372036854775808 ≤ left (toU a) (toU b) (g + 1)
    ·have ho : rv < 0 := by rw [hrv.out]; exact (word_neg _ (by omega)).2 hov
     ·have Hn : Hid (left (toU a) (toU b) g = 2 * left (toU a) (toU b) (g + 1) + 1 - toU b) := by
       show left (toU a) (toU b) g = _
       rw [left_next _ _ _ hb.out, HX.out]; simp only [Bool.toNat_true]; rw [if_pos (by omega)]
      have Hq : Hid (Q.testBit g = true) := by
       show Q.testBit g = _
       rw [← hQ.out, quo_bit _ _ _ hb.out, HX.out]; simp only [Bool.toNat_true]; simp; omega
      have Hs : Hid (wrap64 (r3 - b) = wrap64 (((2 * left (toU a) (toU b) (g + 1) + 1) - toU b : Nat) : Int)) := by
       show wrap64 (r3 - b) = _
       rw [H3.out]; exact word_less _ _ (by omega)
      clear hR hRB
      go_wp2_with fail
      go_roundg g
      case measure => omega
      case rel => exact ⟨_, by omega, Hs.out.trans (by rw [Hn.out]), by first | rfl | simp, rfl, Hst.out.set g _ (top_next _ g _ Hq.out)⟩
    ·have ho : ¬ rv < 0 := by rw [hrv.out]; exact fun h => hov ((word_neg _ (by omega)).1 h)
     have HT : Hid (toU r3 = 2 * left (toU a) (toU b) (g + 1) + 1) := by
      show toU r3 = _
      rw [H3.out]; exact word_toU _ (by omega)
     by_cases hlt : 2 * left (toU a) (toU b) (g + 1) + 1 < toU b
     ·have hbel : ∀ wx : World, Calls Try.prog 54 #[.int .i64 r3, .int .i64 b] wx fun e w' => e = .returned (.bool true) ∧ w' = wx := fun wx => by
       have h := below_calls r3 b r30 r31 b0 b1 wx
       rw [HT.out] at h
       have hd : decide (2 * left (toU a) (toU b) (g + 1) + 1 < toU b) = true := by simp; omega
       rw [hd] at h
       exact h
      have Hn : Hid (left (toU a) (toU b) g = 2 * left (toU a) (toU b) (g + 1) + 1) := by
       show left (toU a) (toU b) g = _
       rw [left_next _ _ _ hb.out, HX.out]; simp only [Bool.toNat_true]; rw [if_neg (by omega)]
      have Hq : Hid (Q.testBit g = false) := by
       show Q.testBit g = _
       rw [← hQ.out, quo_bit _ _ _ hb.out, HX.out]; simp only [Bool.toNat_true]; simp; omega
      clear hR hRB
      go_wp2_with (go_at_call 54; refine (hbel _).mono ?_; rintro e w' ⟨rfl, hw⟩; rw [hw])
      go_roundg g
      case measure => omega
      case rel => exact ⟨_, by omega, H3.out.trans (by rw [Hn.out]), by first | rfl | simp, rfl, top_skip _ g Hq.out ▸ Hst.out⟩
     ·have hbel : ∀ wx : World, Calls Try.prog 54 #[.int .i64 r3, .int .i64 b] wx fun e w' => e = .returned (.bool false) ∧ w' = wx := fun wx => by
       have h := below_calls r3 b r30 r31 b0 b1 wx
       rw [HT.out] at h
       have hd : decide (2 * left (toU a) (toU b) (g + 1) + 1 < toU b) = false := by simp; omega
       rw [hd] at h
       exact h
      have Hn : Hid (left (toU a) (toU b) g = 2 * left (toU a) (toU b) (g + 1) + 1 - toU b) := by
       show left (toU a) (toU b) g = _
       rw [left_next _ _ _ hb.out, HX.out]; simp only [Bool.toNat_true]; rw [if_pos (by omega)]
      have Hq : Hid (Q.testBit g = true) := by
       show Q.testBit g = _
       rw [← hQ.out, quo_bit _ _ _ hb.out, HX.out]; simp only [Bool.toNat_true]; simp; omega
      have Hs : Hid (wrap64 (r3 - b) = wrap64 (((2 * left (toU a) (toU b) (g + 1) + 1) - toU b : Nat) : Int)) := by
       show wrap64 (r3 - b) = _
       rw [H3.out]; exact word_less _ _ (by omega)
      clear hR hRB
      go_wp2_with (go_at_call 54; refine (hbel _).mono ?_; rintro e w' ⟨rfl, hw⟩; rw [hw])
      go_roundg g
      case measure => omega
      case rel => exact ⟨_, by omega, Hs.out.trans (by rw [Hn.out]), by first | rfl | simp, rfl, Hst.out.set g _ (top_next _ g _ Hq.out)⟩
   | false =>
    have HX : Hid ((toU a).testBit g = false) := ex
    clear ex
    have H3 := H2
    by_cases hov : 9223372036854775808 ≤ left (toU a) (toU b) (g + 1)
    ·have ho : rv < 0 := by rw [hrv.out]; exact (word_neg _ (by omega)).2 hov
     ·have Hn : Hid (left (toU a) (toU b) g = 2 * left (toU a) (toU b) (g + 1) - toU b) := by
       show left (toU a) (toU b) g = _
       rw [left_next _ _ _ hb.out, HX.out]; simp only [Bool.toNat_false, Nat.add_zero]; rw [if_pos (by omega)]
      have Hq : Hid (Q.testBit g = true) := by
       show Q.testBit g = _
       rw [← hQ.out, quo_bit _ _ _ hb.out, HX.out]; simp only [Bool.toNat_false, Nat.add_zero]; simp; omega
      have Hs : Hid (wrap64 (r2 - b) = wrap64 (((2 * left (toU a) (toU b) (g + 1)) - toU b : Nat) : Int)) := by
       show wrap64 (r2 - b) = _
       rw [H3.out]; exact word_less _ _ (by omega)
      clear hR hRB
      go_wp2_with fail
      go_roundg g
      case measure => omega
      case rel => exact ⟨_, by omega, Hs.out.trans (by rw [Hn.out]), by first | rfl | simp, rfl, Hst.out.set g _ (top_next _ g _ Hq.out)⟩
    ·have ho : ¬ rv < 0 := by rw [hrv.out]; exact fun h => hov ((word_neg _ (by omega)).1 h)
     have HT : Hid (toU r2 = 2 * left (toU a) (toU b) (g + 1)) := by
      show toU r2 = _
      rw [H3.out]; exact word_toU _ (by omega)
     by_cases hlt : 2 * left (toU a) (toU b) (g + 1) < toU b
     ·have hbel : ∀ wx : World, Calls Try.prog 54 #[.int .i64 r2, .int .i64 b] wx fun e w' => e = .returned (.bool true) ∧ w' = wx := fun wx => by
       have h := below_calls r2 b r20 r21 b0 b1 wx
       rw [HT.out] at h
       have hd : decide (2 * left (toU a) (toU b) (g + 1) < toU b) = true := by simp; omega
       rw [hd] at h
       exact h
      have Hn : Hid (left (toU a) (toU b) g = 2 * left (toU a) (toU b) (g + 1)) := by
       show left (toU a) (toU b) g = _
       rw [left_next _ _ _ hb.out, HX.out]; simp only [Bool.toNat_false, Nat.add_zero]; rw [if_neg (by omega)]
      have Hq : Hid (Q.testBit g = false) := by
       show Q.testBit g = _
       rw [← hQ.out, quo_bit _ _ _ hb.out, HX.out]; simp only [Bool.toNat_false, Nat.add_zero]; simp; omega
      clear hR hRB
      go_wp2_with (go_at_call 54; refine (hbel _).mono ?_; rintro e w' ⟨rfl, hw⟩; rw [hw])
      go_roundg g
      case measure => omega
      case rel => exact ⟨_, by omega, H3.out.trans (by rw [Hn.out]), by first | rfl | simp, rfl, top_skip _ g Hq.out ▸ Hst.out⟩
     ·have hbel : ∀ wx : World, Calls Try.prog 54 #[.int .i64 r2, .int .i64 b] wx fun e w' => e = .returned (.bool false) ∧ w' = wx := fun wx => by
       have h := below_calls r2 b r20 r21 b0 b1 wx
       rw [HT.out] at h
       have hd : decide (2 * left (toU a) (toU b) (g + 1) < toU b) = false := by simp; omega
       rw [hd] at h
       exact h
      have Hn : Hid (left (toU a) (toU b) g = 2 * left (toU a) (toU b) (g + 1) - toU b) := by
       show left (toU a) (toU b) g = _
       rw [left_next _ _ _ hb.out, HX.out]; simp only [Bool.toNat_false, Nat.add_zero]; rw [if_pos (by omega)]
      have Hq : Hid (Q.testBit g = true) := by
       show Q.testBit g = _
       rw [← hQ.out, quo_bit _ _ _ hb.out, HX.out]; simp only [Bool.toNat_false, Nat.add_zero]; simp; omega
      have Hs : Hid (wrap64 (r2 - b) = wrap64 (((2 * left (toU a) (toU b) (g + 1)) - toU b : Nat) : Int)) := by
       show wrap64 (r2 - b) = _
       rw [H3.out]; exact word_less _ _ (by omega)
      clear hR hRB
      go_wp2_with (go_at_call 54; refine (hbel _).mono ?_; rintro e w' ⟨rfl, hw⟩; rw [hw])
      go_roundg g
      case measure => omega
      case rel => exact ⟨_, by omega, Hs.out.trans (by rw [Hn.out]), by first | rfl | simp, rfl, Hst.out.set g _ (top_next _ g _ Hq.out)⟩
end
end Go.Proofs.Ytmpafeoileonjaa
