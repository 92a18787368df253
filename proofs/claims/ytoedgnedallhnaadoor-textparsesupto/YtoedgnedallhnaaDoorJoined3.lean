/-
  The texts InsB, InsC, InsD, RefForm, Last, TxParse, TxText, one behind the other, with what is used of them.
-/
import Derived.Test.YtoedgnedallhnaaDoorRows
import Derived.WalkKit
import Derived.Deep.LoopGhost
import Derived.Test.YtoedgnedallhnaaDoorJoined2
import Derived.Test.YtoedgnedallhnaaDoorJoined1
import Derived.Test.YtoedgnedallhnaaDoorJoined0
namespace Go.Proofs.YtoedgnedallhnaaDoor
section
open Go.RowKit
set_option maxRecDepth 8000 in
set_option maxHeartbeats 1000000 in
theorem ins_3 (ra : Option Addr) (rl rc : Nat) (ca : Option Addr) (cl cc : Nat) (a b c n regs : Int) (w : World) (P : Prop) (HP : Hid (P ↔ (True ∧ (∀ j, j < 3 → Fld regs (tri 1 1 2 j) (tri a b c j)) ∧ Rgn rl c))) :
    Calls Tryd.prog 33 #[.agg #[.slice ra rl rc, .slice ca cl cc], .agg #[.int .i64 3, .int .i64 a, .int .i64 b, .int .i64 c, .int .i64 n], .int .i64 regs] w (Says P w) := by
  go_enter Tryd.func33, Tryd.ntmps33
  go_wp2_with (fail)
  refine (shape_3 _).mono ?_
  rintro e w1 ⟨g, rfl, hg, m1⟩
  obtain ⟨⟨c0, c1⟩, d0, d1, d2, d3, d4⟩ := boxes2 m1
  have Hg : Hid (∀ j, j < 3 → w1.cell? ⟨g, j, none⟩ = some (.int .i64 (tri 1 1 2 j))) := hg
  have Hm1 : Hid (More w w1) := (((More.refl _).alloc _ _).alloc _ _).trans m1
  clear hg m1
  have HN : Hid True := trivial
  go_wp2
  obtain ⟨W, HW⟩ : ∃ W : World, Hid (W = w1.alloc (.cells #[.int .i64 a, .int .i64 b, .int .i64 c] 3)) := ⟨_, rfl⟩
  have Hm1W : Hid (More w1 W) := HW.out ▸ (More.refl _).alloc _ _
  have Hm : Hid (More w W) := Hm1.out.trans Hm1W.out
  have Hf : Hid (∀ j, j < 3 → W.cell? ⟨w1.heap.size, j, none⟩ = some (.int .i64 (tri a b c j))) := by rw [HW.out]; exact tri_cells (by go_simp) (by go_simp) (by go_simp)
  have Hg' : Hid (∀ j, j < 3 → W.cell? ⟨g, j, none⟩ = some (.int .i64 (tri 1 1 2 j))) := fun j hj => Hm1W.out.cell (Hg.out j hj)
  clear Hg
  replace c0 := Hm1W.out.cell c0
  replace c1 := Hm1W.out.cell c1
  replace d0 := Hm1W.out.cell d0
  replace d1 := Hm1W.out.cell d1
  replace d2 := Hm1W.out.cell d2
  replace d3 := Hm1W.out.cell d3
  replace d4 := Hm1W.out.cell d4
  go_loopg [11] 3 (fun q i wr => ∃ k : Nat, k + q = 3 ∧ i = .int .i64 k ∧ (∀ j, j < k → Fld regs (tri 1 1 2 j) (tri a b c j)) ∧ wr = W)
  case atStart => exact ⟨0, by omega, rfl, fun j hj => by omega, HW.out.symm⟩
  case round =>
    obtain ⟨k, hkg, rfl, hok, rfl⟩ := hrel
    have Hok : Hid (∀ j, j < k → Fld regs (tri 1 1 2 j) (tri a b c j)) := hok
    clear hok
    cases gk with
    | zero =>
      obtain rfl : k = 3 := by omega
      by_cases t0 : 0 ≤ c
      · by_cases t1 : c < (rl : Int)
        · have T : Hid (0 ≤ c ∧ c < (rl : Int)) := ⟨t0, t1⟩
          go_wp2
          go_ret
          exact ⟨_, rfl, ⟨fun _ => HP.out.2 ⟨HN.out, Hok.out, T.out⟩, fun _ => by first | rfl | (simp <;> omega)⟩, Hm.out⟩
        · have T : Hid (¬ c < (rl : Int)) := t1
          go_wp2
          go_ret
          exact ⟨_, rfl, ⟨fun h => by first | (simp at h; done) | (simp at h; omega), fun h => by have h1 := (HP.out.1 h).2.2; have h2 := T.out; have h3 := h1.2; omega⟩, Hm.out⟩
      · have T : Hid (¬ 0 ≤ c) := t0
        go_wp2
        go_ret
        exact ⟨_, rfl, ⟨fun h => by first | (simp at h; done) | (simp at h; omega), fun h => by have h1 := (HP.out.1 h).2.2; have h2 := T.out; have h3 := h1.1; omega⟩, Hm.out⟩
    | succ q =>
      clear d0 d1 d2 d3 d4 c0 c1
      have hk : k < 3 := by omega
      have hk' : (k : Int) < 3 := by omega
      have hk0 : (0 : Int) ≤ (k : Int) := by omega
      have qg := Hg'.out k hk
      have qf := Hf.out k hk
      obtain ⟨x, hx⟩ : ∃ x, tri 1 1 2 k = x := ⟨_, rfl⟩
      obtain ⟨y, hy⟩ : ∃ y, tri a b c k = y := ⟨_, rfl⟩
      rw [hx] at qg
      rw [hy] at qf
      have HX : Hid (tri 1 1 2 k = x ∧ tri a b c k = y) := ⟨hx, hy⟩
      clear hx hy
      have step : Hid (Fld regs x y → ∀ j, j < k + 1 → Fld regs (tri 1 1 2 j) (tri a b c j)) := by
        intro h j hj
        by_cases e : j = k
        · subst e; rw [HX.out.1, HX.out.2]; exact h
        · exact Hok.out j (by omega)
      have back : Hid ((∀ j, j < 3 → Fld regs (tri 1 1 2 j) (tri a b c j)) → Fld regs x y) := by
        intro h
        have := h k hk
        rw [HX.out.1, HX.out.2] at this
        exact this
      by_cases hx0 : x = 0
      · subst hx0
        by_cases hy0 : y = 0
        · subst hy0
          go_wp2
          go_roundg q
          case measure => omega
          case rel => exact ⟨k + 1, by omega, by first | rfl | simp, step.out ⟨fun _ => rfl, fun h => by simp at h⟩, rfl⟩
        · have hy1 : (y != 0) = true := by simp [hy0]
          have Hy : Hid (¬ y = 0) := hy0
          clear hy0
          go_wp2
          go_ret
          exact Says.no (fun h => Hy.out ((back.out (HP.out.1 h).2.1).1 rfl)) Hm.out
      by_cases hx1 : x = 1
      · subst hx1
        clear hx0
        by_cases hy0 : y < 0
        · have Hy : Hid (y < 0) := hy0
          go_wp2
          go_ret
          exact Says.no (fun h => by have := ((back.out (HP.out.1 h).2.1).2 rfl).1; have := Hy.out; omega) Hm.out
        by_cases hy1 : regs ≤ y
        · have Hy : Hid (regs ≤ y) := hy1
          go_wp2
          go_ret
          exact Says.no (fun h => by have := ((back.out (HP.out.1 h).2.1).2 rfl).2; have := Hy.out; omega) Hm.out
        have Hy : Hid (Reg regs y) := ⟨by omega, by omega⟩
        go_wp2
        go_roundg q
        case measure => omega
        case rel => exact ⟨k + 1, by omega, by first | rfl | simp, step.out ⟨fun h => by simp at h, fun _ => Hy.out⟩, rfl⟩
      have Hx : Hid (¬ x = 0 ∧ ¬ x = 1) := ⟨hx0, hx1⟩
      have hx2 : (x == 0) = false := by simp [hx0]
      have hx3 : (x == 1) = false := by simp [hx1]
      clear hx0 hx1
      go_wp2
      go_roundg q
      case measure => omega
      case rel => exact ⟨k + 1, by omega, by first | rfl | simp, step.out ⟨fun h => absurd h Hx.out.1, fun h => absurd h Hx.out.2⟩, rfl⟩

set_option maxRecDepth 8000 in
set_option maxHeartbeats 1000000 in
theorem ins_4 (ra : Option Addr) (rl rc : Nat) (ca : Option Addr) (cl cc : Nat) (a b c n regs : Int) (w : World) (P : Prop) (HP : Hid (P ↔ (True ∧ (∀ j, j < 3 → Fld regs (tri 1 1 2 j) (tri a b c j)) ∧ Rgn rl c))) :
    Calls Tryd.prog 33 #[.agg #[.slice ra rl rc, .slice ca cl cc], .agg #[.int .i64 4, .int .i64 a, .int .i64 b, .int .i64 c, .int .i64 n], .int .i64 regs] w (Says P w) := by
  go_enter Tryd.func33, Tryd.ntmps33
  go_wp2_with (fail)
  refine (shape_4 _).mono ?_
  rintro e w1 ⟨g, rfl, hg, m1⟩
  obtain ⟨⟨c0, c1⟩, d0, d1, d2, d3, d4⟩ := boxes2 m1
  have Hg : Hid (∀ j, j < 3 → w1.cell? ⟨g, j, none⟩ = some (.int .i64 (tri 1 1 2 j))) := hg
  have Hm1 : Hid (More w w1) := (((More.refl _).alloc _ _).alloc _ _).trans m1
  clear hg m1
  have HN : Hid True := trivial
  go_wp2
  obtain ⟨W, HW⟩ : ∃ W : World, Hid (W = w1.alloc (.cells #[.int .i64 a, .int .i64 b, .int .i64 c] 3)) := ⟨_, rfl⟩
  have Hm1W : Hid (More w1 W) := HW.out ▸ (More.refl _).alloc _ _
  have Hm : Hid (More w W) := Hm1.out.trans Hm1W.out
  have Hf : Hid (∀ j, j < 3 → W.cell? ⟨w1.heap.size, j, none⟩ = some (.int .i64 (tri a b c j))) := by rw [HW.out]; exact tri_cells (by go_simp) (by go_simp) (by go_simp)
  have Hg' : Hid (∀ j, j < 3 → W.cell? ⟨g, j, none⟩ = some (.int .i64 (tri 1 1 2 j))) := fun j hj => Hm1W.out.cell (Hg.out j hj)
  clear Hg
  replace c0 := Hm1W.out.cell c0
  replace c1 := Hm1W.out.cell c1
  replace d0 := Hm1W.out.cell d0
  replace d1 := Hm1W.out.cell d1
  replace d2 := Hm1W.out.cell d2
  replace d3 := Hm1W.out.cell d3
  replace d4 := Hm1W.out.cell d4
  go_loopg [11] 3 (fun q i wr => ∃ k : Nat, k + q = 3 ∧ i = .int .i64 k ∧ (∀ j, j < k → Fld regs (tri 1 1 2 j) (tri a b c j)) ∧ wr = W)
  case atStart => exact ⟨0, by omega, rfl, fun j hj => by omega, HW.out.symm⟩
  case round =>
    obtain ⟨k, hkg, rfl, hok, rfl⟩ := hrel
    have Hok : Hid (∀ j, j < k → Fld regs (tri 1 1 2 j) (tri a b c j)) := hok
    clear hok
    cases gk with
    | zero =>
      obtain rfl : k = 3 := by omega
      by_cases t0 : 0 ≤ c
      · by_cases t1 : c < (rl : Int)
        · have T : Hid (0 ≤ c ∧ c < (rl : Int)) := ⟨t0, t1⟩
          go_wp2
          go_ret
          exact ⟨_, rfl, ⟨fun _ => HP.out.2 ⟨HN.out, Hok.out, T.out⟩, fun _ => by first | rfl | (simp <;> omega)⟩, Hm.out⟩
        · have T : Hid (¬ c < (rl : Int)) := t1
          go_wp2
          go_ret
          exact ⟨_, rfl, ⟨fun h => by first | (simp at h; done) | (simp at h; omega), fun h => by have h1 := (HP.out.1 h).2.2; have h2 := T.out; have h3 := h1.2; omega⟩, Hm.out⟩
      · have T : Hid (¬ 0 ≤ c) := t0
        go_wp2
        go_ret
        exact ⟨_, rfl, ⟨fun h => by first | (simp at h; done) | (simp at h; omega), fun h => by have h1 := (HP.out.1 h).2.2; have h2 := T.out; have h3 := h1.1; omega⟩, Hm.out⟩
    | succ q =>
      clear d0 d1 d2 d3 d4 c0 c1
      have hk : k < 3 := by omega
      have hk' : (k : Int) < 3 := by omega
      have hk0 : (0 : Int) ≤ (k : Int) := by omega
      have qg := Hg'.out k hk
      have qf := Hf.out k hk
      obtain ⟨x, hx⟩ : ∃ x, tri 1 1 2 k = x := ⟨_, rfl⟩
      obtain ⟨y, hy⟩ : ∃ y, tri a b c k = y := ⟨_, rfl⟩
      rw [hx] at qg
      rw [hy] at qf
      have HX : Hid (tri 1 1 2 k = x ∧ tri a b c k = y) := ⟨hx, hy⟩
      clear hx hy
      have step : Hid (Fld regs x y → ∀ j, j < k + 1 → Fld regs (tri 1 1 2 j) (tri a b c j)) := by
        intro h j hj
        by_cases e : j = k
        · subst e; rw [HX.out.1, HX.out.2]; exact h
        · exact Hok.out j (by omega)
      have back : Hid ((∀ j, j < 3 → Fld regs (tri 1 1 2 j) (tri a b c j)) → Fld regs x y) := by
        intro h
        have := h k hk
        rw [HX.out.1, HX.out.2] at this
        exact this
      by_cases hx0 : x = 0
      · subst hx0
        by_cases hy0 : y = 0
        · subst hy0
          go_wp2
          go_roundg q
          case measure => omega
          case rel => exact ⟨k + 1, by omega, by first | rfl | simp, step.out ⟨fun _ => rfl, fun h => by simp at h⟩, rfl⟩
        · have hy1 : (y != 0) = true := by simp [hy0]
          have Hy : Hid (¬ y = 0) := hy0
          clear hy0
          go_wp2
          go_ret
          exact Says.no (fun h => Hy.out ((back.out (HP.out.1 h).2.1).1 rfl)) Hm.out
      by_cases hx1 : x = 1
      · subst hx1
        clear hx0
        by_cases hy0 : y < 0
        · have Hy : Hid (y < 0) := hy0
          go_wp2
          go_ret
          exact Says.no (fun h => by have := ((back.out (HP.out.1 h).2.1).2 rfl).1; have := Hy.out; omega) Hm.out
        by_cases hy1 : regs ≤ y
        · have Hy : Hid (regs ≤ y) := hy1
          go_wp2
          go_ret
          exact Says.no (fun h => by have := ((back.out (HP.out.1 h).2.1).2 rfl).2; have := Hy.out; omega) Hm.out
        have Hy : Hid (Reg regs y) := ⟨by omega, by omega⟩
        go_wp2
        go_roundg q
        case measure => omega
        case rel => exact ⟨k + 1, by omega, by first | rfl | simp, step.out ⟨fun h => by simp at h, fun _ => Hy.out⟩, rfl⟩
      have Hx : Hid (¬ x = 0 ∧ ¬ x = 1) := ⟨hx0, hx1⟩
      have hx2 : (x == 0) = false := by simp [hx0]
      have hx3 : (x == 1) = false := by simp [hx1]
      clear hx0 hx1
      go_wp2
      go_roundg q
      case measure => omega
      case rel => exact ⟨k + 1, by omega, by first | rfl | simp, step.out ⟨fun h => absurd h Hx.out.1, fun h => absurd h Hx.out.2⟩, rfl⟩

set_option maxRecDepth 8000 in
set_option maxHeartbeats 1000000 in
theorem ins_12 (ra : Option Addr) (rl rc : Nat) (ca : Option Addr) (cl cc : Nat) (a b c n regs : Int) (w : World) (P : Prop) (HP : Hid (P ↔ (n = 0 ∧ (∀ j, j < 3 → Fld regs (tri 0 0 0 j) (tri a b c j)) ∧ True))) :
    Calls Tryd.prog 33 #[.agg #[.slice ra rl rc, .slice ca cl cc], .agg #[.int .i64 12, .int .i64 a, .int .i64 b, .int .i64 c, .int .i64 n], .int .i64 regs] w (Says P w) := by
  go_enter Tryd.func33, Tryd.ntmps33
  go_wp2_with (fail)
  refine (shape_12 _).mono ?_
  rintro e w1 ⟨g, rfl, hg, m1⟩
  obtain ⟨⟨c0, c1⟩, d0, d1, d2, d3, d4⟩ := boxes2 m1
  have Hg : Hid (∀ j, j < 3 → w1.cell? ⟨g, j, none⟩ = some (.int .i64 (tri 0 0 0 j))) := hg
  have Hm1 : Hid (More w w1) := (((More.refl _).alloc _ _).alloc _ _).trans m1
  clear hg m1
  by_cases hn0 : n = 0
  rotate_left
  · have HN : Hid (¬ n = 0) := hn0
    have hn1 : (n != 0) = true := by simp [hn0]
    clear hn0
    go_wp2
    go_ret
    exact Says.no (fun h => HN.out (HP.out.1 h).1) Hm1.out
  have HN : Hid (n = 0) := hn0
  have hn1 : (n != 0) = false := by simp [hn0]
  clear hn0
  go_wp2
  obtain ⟨W, HW⟩ : ∃ W : World, Hid (W = w1.alloc (.cells #[.int .i64 a, .int .i64 b, .int .i64 c] 3)) := ⟨_, rfl⟩
  have Hm1W : Hid (More w1 W) := HW.out ▸ (More.refl _).alloc _ _
  have Hm : Hid (More w W) := Hm1.out.trans Hm1W.out
  have Hf : Hid (∀ j, j < 3 → W.cell? ⟨w1.heap.size, j, none⟩ = some (.int .i64 (tri a b c j))) := by rw [HW.out]; exact tri_cells (by go_simp) (by go_simp) (by go_simp)
  have Hg' : Hid (∀ j, j < 3 → W.cell? ⟨g, j, none⟩ = some (.int .i64 (tri 0 0 0 j))) := fun j hj => Hm1W.out.cell (Hg.out j hj)
  clear Hg
  replace c0 := Hm1W.out.cell c0
  replace c1 := Hm1W.out.cell c1
  replace d0 := Hm1W.out.cell d0
  replace d1 := Hm1W.out.cell d1
  replace d2 := Hm1W.out.cell d2
  replace d3 := Hm1W.out.cell d3
  replace d4 := Hm1W.out.cell d4
  go_loopg [11] 3 (fun q i wr => ∃ k : Nat, k + q = 3 ∧ i = .int .i64 k ∧ (∀ j, j < k → Fld regs (tri 0 0 0 j) (tri a b c j)) ∧ wr = W)
  case atStart => exact ⟨0, by omega, rfl, fun j hj => by omega, HW.out.symm⟩
  case round =>
    obtain ⟨k, hkg, rfl, hok, rfl⟩ := hrel
    have Hok : Hid (∀ j, j < k → Fld regs (tri 0 0 0 j) (tri a b c j)) := hok
    clear hok
    cases gk with
    | zero =>
      obtain rfl : k = 3 := by omega
      go_wp2
      go_ret
      exact Says.yes (HP.out.2 ⟨HN.out, Hok.out, trivial⟩) Hm.out
    | succ q =>
      clear d0 d1 d2 d3 d4 c0 c1
      have hk : k < 3 := by omega
      have hk' : (k : Int) < 3 := by omega
      have hk0 : (0 : Int) ≤ (k : Int) := by omega
      have qg := Hg'.out k hk
      have qf := Hf.out k hk
      obtain ⟨x, hx⟩ : ∃ x, tri 0 0 0 k = x := ⟨_, rfl⟩
      obtain ⟨y, hy⟩ : ∃ y, tri a b c k = y := ⟨_, rfl⟩
      rw [hx] at qg
      rw [hy] at qf
      have HX : Hid (tri 0 0 0 k = x ∧ tri a b c k = y) := ⟨hx, hy⟩
      clear hx hy
      have step : Hid (Fld regs x y → ∀ j, j < k + 1 → Fld regs (tri 0 0 0 j) (tri a b c j)) := by
        intro h j hj
        by_cases e : j = k
        · subst e; rw [HX.out.1, HX.out.2]; exact h
        · exact Hok.out j (by omega)
      have back : Hid ((∀ j, j < 3 → Fld regs (tri 0 0 0 j) (tri a b c j)) → Fld regs x y) := by
        intro h
        have := h k hk
        rw [HX.out.1, HX.out.2] at this
        exact this
      by_cases hx0 : x = 0
      · subst hx0
        by_cases hy0 : y = 0
        · subst hy0
          go_wp2
          go_roundg q
          case measure => omega
          case rel => exact ⟨k + 1, by omega, by first | rfl | simp, step.out ⟨fun _ => rfl, fun h => by simp at h⟩, rfl⟩
        · have hy1 : (y != 0) = true := by simp [hy0]
          have Hy : Hid (¬ y = 0) := hy0
          clear hy0
          go_wp2
          go_ret
          exact Says.no (fun h => Hy.out ((back.out (HP.out.1 h).2.1).1 rfl)) Hm.out
      by_cases hx1 : x = 1
      · subst hx1
        clear hx0
        by_cases hy0 : y < 0
        · have Hy : Hid (y < 0) := hy0
          go_wp2
          go_ret
          exact Says.no (fun h => by have := ((back.out (HP.out.1 h).2.1).2 rfl).1; have := Hy.out; omega) Hm.out
        by_cases hy1 : regs ≤ y
        · have Hy : Hid (regs ≤ y) := hy1
          go_wp2
          go_ret
          exact Says.no (fun h => by have := ((back.out (HP.out.1 h).2.1).2 rfl).2; have := Hy.out; omega) Hm.out
        have Hy : Hid (Reg regs y) := ⟨by omega, by omega⟩
        go_wp2
        go_roundg q
        case measure => omega
        case rel => exact ⟨k + 1, by omega, by first | rfl | simp, step.out ⟨fun h => by simp at h, fun _ => Hy.out⟩, rfl⟩
      have Hx : Hid (¬ x = 0 ∧ ¬ x = 1) := ⟨hx0, hx1⟩
      have hx2 : (x == 0) = false := by simp [hx0]
      have hx3 : (x == 1) = false := by simp [hx1]
      clear hx0 hx1
      go_wp2
      go_roundg q
      case measure => omega
      case rel => exact ⟨k + 1, by omega, by first | rfl | simp, step.out ⟨fun h => absurd h Hx.out.1, fun h => absurd h Hx.out.2⟩, rfl⟩
set_option maxRecDepth 8000 in
set_option maxHeartbeats 1000000 in
theorem ins_5 (ra : Option Addr) (rl rc : Nat) (ca : Option Addr) (cl cc : Nat) (a b c n regs : Int) (w : World) (rb ro : Nat) (log : Nat → Int) (sec : Nat → Bool) (hra : 0 < rl → ra = some ⟨rb, ro, none⟩) (hr : RegsAt w rb ro rl log sec) (hok : RegionsOk rl log) (P : Prop) (HP : Hid (P ↔ (True ∧ (∀ j, j < 3 → Fld regs (tri 1 0 2 j) (tri a b c j)) ∧ Rgn rl c ∧ Wrd log c n))) :
    Calls Tryd.prog 33 #[.agg #[.slice ra rl rc, .slice ca cl cc], .agg #[.int .i64 5, .int .i64 a, .int .i64 b, .int .i64 c, .int .i64 n], .int .i64 regs] w (Says P w) := by
  have Hr : Hid ((0 < rl → ra = some ⟨rb, ro, none⟩) ∧ RegsAt w rb ro rl log sec ∧ RegionsOk rl log) := ⟨hra, hr, hok⟩
  clear hra hr hok
  go_enter Tryd.func33, Tryd.ntmps33
  go_wp2_with (fail)
  refine (shape_5 _).mono ?_
  rintro e w1 ⟨g, rfl, hg, m1⟩
  obtain ⟨⟨c0, c1⟩, d0, d1, d2, d3, d4⟩ := boxes2 m1
  have Hg : Hid (∀ j, j < 3 → w1.cell? ⟨g, j, none⟩ = some (.int .i64 (tri 1 0 2 j))) := hg
  have Hm1 : Hid (More w w1) := (((More.refl _).alloc _ _).alloc _ _).trans m1
  clear hg m1
  have HN : Hid True := trivial
  go_wp2
  obtain ⟨W, HW⟩ : ∃ W : World, Hid (W = w1.alloc (.cells #[.int .i64 a, .int .i64 b, .int .i64 c] 3)) := ⟨_, rfl⟩
  have Hm1W : Hid (More w1 W) := HW.out ▸ (More.refl _).alloc _ _
  have Hm : Hid (More w W) := Hm1.out.trans Hm1W.out
  have Hf : Hid (∀ j, j < 3 → W.cell? ⟨w1.heap.size, j, none⟩ = some (.int .i64 (tri a b c j))) := by rw [HW.out]; exact tri_cells (by go_simp) (by go_simp) (by go_simp)
  have Hg' : Hid (∀ j, j < 3 → W.cell? ⟨g, j, none⟩ = some (.int .i64 (tri 1 0 2 j))) := fun j hj => Hm1W.out.cell (Hg.out j hj)
  clear Hg
  replace c0 := Hm1W.out.cell c0
  replace c1 := Hm1W.out.cell c1
  replace d0 := Hm1W.out.cell d0
  replace d1 := Hm1W.out.cell d1
  replace d2 := Hm1W.out.cell d2
  replace d3 := Hm1W.out.cell d3
  replace d4 := Hm1W.out.cell d4
  go_loopg [11] 3 (fun q i wr => ∃ k : Nat, k + q = 3 ∧ i = .int .i64 k ∧ (∀ j, j < k → Fld regs (tri 1 0 2 j) (tri a b c j)) ∧ wr = W)
  case atStart => exact ⟨0, by omega, rfl, fun j hj => by omega, HW.out.symm⟩
  case round =>
    obtain ⟨k, hkg, rfl, hok, rfl⟩ := hrel
    have Hok : Hid (∀ j, j < k → Fld regs (tri 1 0 2 j) (tri a b c j)) := hok
    clear hok
    cases gk with
    | zero =>
      obtain rfl : k = 3 := by omega
      by_cases t0 : c < 0
      · have T : Hid (c < 0) := t0
        go_wp2
        go_ret
        exact ⟨_, rfl, ⟨fun h => by first | (simp at h; done) | (simp at h; omega), fun h => by have h1 := (HP.out.1 h).2.2; have h2 := T.out; have h3 := h1.1.1; omega⟩, Hm.out⟩
      by_cases t1 : (rl : Int) ≤ c
      · have T : Hid ((rl : Int) ≤ c) := t1
        go_wp2
        go_ret
        exact ⟨_, rfl, ⟨fun h => by first | (simp at h; done) | (simp at h; omega), fun h => by have h1 := (HP.out.1 h).2.2; have h2 := T.out; have h3 := h1.1.2; omega⟩, Hm.out⟩
      have hk : c.toNat < rl := by omega
      have t0' : 0 ≤ c := by omega
      have t1' : c < (rl : Int) := by omega
      have Hrgn : Hid (Rgn rl c) := ⟨t0', t1'⟩
      obtain rfl := Hr.out.1 (by omega)
      have q0 := ((Hr.out.2.1.more Hm.out) c.toNat hk).1
      have q1 := ((Hr.out.2.1.more Hm.out) c.toNat hk).2
      have Hlog : Hid (0 ≤ log c.toNat ∧ log c.toNat ≤ 6) := Hr.out.2.2.2 c.toNat hk
      obtain ⟨lk, hlk⟩ : ∃ x, log c.toNat = x := ⟨_, rfl⟩
      rw [hlk] at q0 Hlog
      have Hlk : Hid (log c.toNat = lk) := hlk
      clear hlk
      go_wp2_with (fail)
      obtain ⟨nw, hnw⟩ : ∃ x, wordsI lk = x := ⟨_, rfl⟩
      refine ((ref_words lk Hlog.out.1 Hlog.out.2 (sec c.toNat) _)).mono ?_
      rw [hnw]
      have Hnw : Hid (Wrd log c n ↔ (0 ≤ n ∧ n < nw)) := by unfold Wrd; rw [Hlk.out, ← hnw]; exact Iff.rfl
      clear hnw q0 q1
      rintro e w5 ⟨rfl, m5⟩
      have d4' := m5.cell d4
      clear d4 d3 d2 d1 d0 c0 c1
      have Hm5 : Hid (More w w5) := Hm.out.trans m5
      clear m5
      by_cases t2 : 0 ≤ n
      · by_cases t3 : n < nw
        · have T : Hid (Wrd log c n) := Hnw.out.2 ⟨t2, t3⟩
          go_wp2
          go_ret
          exact ⟨_, rfl, ⟨fun _ => HP.out.2 ⟨HN.out, Hok.out, Hrgn.out, T.out⟩, fun _ => by first | rfl | (simp <;> omega)⟩, Hm5.out⟩
        · have T : Hid (nw ≤ n) := (by omega : nw ≤ n)
          go_wp2
          go_ret
          exact ⟨_, rfl, ⟨fun h => by first | (simp at h; done) | (simp at h; omega), fun h => by have h1 := (HP.out.1 h).2.2; have h2 := T.out; have h3 := (Hnw.out.1 h1.2).2; omega⟩, Hm5.out⟩
      · have T : Hid (n < 0) := (by omega : n < 0)
        go_wp2
        go_ret
        exact ⟨_, rfl, ⟨fun h => by first | (simp at h; done) | (simp at h; omega), fun h => by have h1 := (HP.out.1 h).2.2; have h2 := T.out; have h3 := (Hnw.out.1 h1.2).1; omega⟩, Hm5.out⟩
    | succ q =>
      clear d0 d1 d2 d3 d4 c0 c1
      have hk : k < 3 := by omega
      have hk' : (k : Int) < 3 := by omega
      have hk0 : (0 : Int) ≤ (k : Int) := by omega
      have qg := Hg'.out k hk
      have qf := Hf.out k hk
      obtain ⟨x, hx⟩ : ∃ x, tri 1 0 2 k = x := ⟨_, rfl⟩
      obtain ⟨y, hy⟩ : ∃ y, tri a b c k = y := ⟨_, rfl⟩
      rw [hx] at qg
      rw [hy] at qf
      have HX : Hid (tri 1 0 2 k = x ∧ tri a b c k = y) := ⟨hx, hy⟩
      clear hx hy
      have step : Hid (Fld regs x y → ∀ j, j < k + 1 → Fld regs (tri 1 0 2 j) (tri a b c j)) := by
        intro h j hj
        by_cases e : j = k
        · subst e; rw [HX.out.1, HX.out.2]; exact h
        · exact Hok.out j (by omega)
      have back : Hid ((∀ j, j < 3 → Fld regs (tri 1 0 2 j) (tri a b c j)) → Fld regs x y) := by
        intro h
        have := h k hk
        rw [HX.out.1, HX.out.2] at this
        exact this
      by_cases hx0 : x = 0
      · subst hx0
        by_cases hy0 : y = 0
        · subst hy0
          go_wp2
          go_roundg q
          case measure => omega
          case rel => exact ⟨k + 1, by omega, by first | rfl | simp, step.out ⟨fun _ => rfl, fun h => by simp at h⟩, rfl⟩
        · have hy1 : (y != 0) = true := by simp [hy0]
          have Hy : Hid (¬ y = 0) := hy0
          clear hy0
          go_wp2
          go_ret
          exact Says.no (fun h => Hy.out ((back.out (HP.out.1 h).2.1).1 rfl)) Hm.out
      by_cases hx1 : x = 1
      · subst hx1
        clear hx0
        by_cases hy0 : y < 0
        · have Hy : Hid (y < 0) := hy0
          go_wp2
          go_ret
          exact Says.no (fun h => by have := ((back.out (HP.out.1 h).2.1).2 rfl).1; have := Hy.out; omega) Hm.out
        by_cases hy1 : regs ≤ y
        · have Hy : Hid (regs ≤ y) := hy1
          go_wp2
          go_ret
          exact Says.no (fun h => by have := ((back.out (HP.out.1 h).2.1).2 rfl).2; have := Hy.out; omega) Hm.out
        have Hy : Hid (Reg regs y) := ⟨by omega, by omega⟩
        go_wp2
        go_roundg q
        case measure => omega
        case rel => exact ⟨k + 1, by omega, by first | rfl | simp, step.out ⟨fun h => by simp at h, fun _ => Hy.out⟩, rfl⟩
      have Hx : Hid (¬ x = 0 ∧ ¬ x = 1) := ⟨hx0, hx1⟩
      have hx2 : (x == 0) = false := by simp [hx0]
      have hx3 : (x == 1) = false := by simp [hx1]
      clear hx0 hx1
      go_wp2
      go_roundg q
      case measure => omega
      case rel => exact ⟨k + 1, by omega, by first | rfl | simp, step.out ⟨fun h => absurd h Hx.out.1, fun h => absurd h Hx.out.2⟩, rfl⟩

set_option maxRecDepth 8000 in
set_option maxHeartbeats 1000000 in
theorem ins_6 (ra : Option Addr) (rl rc : Nat) (ca : Option Addr) (cl cc : Nat) (a b c n regs : Int) (w : World) (rb ro : Nat) (log : Nat → Int) (sec : Nat → Bool) (hra : 0 < rl → ra = some ⟨rb, ro, none⟩) (hr : RegsAt w rb ro rl log sec) (hok : RegionsOk rl log) (P : Prop) (HP : Hid (P ↔ (True ∧ (∀ j, j < 3 → Fld regs (tri 1 0 2 j) (tri a b c j)) ∧ Rgn rl c ∧ Wrd log c n))) :
    Calls Tryd.prog 33 #[.agg #[.slice ra rl rc, .slice ca cl cc], .agg #[.int .i64 6, .int .i64 a, .int .i64 b, .int .i64 c, .int .i64 n], .int .i64 regs] w (Says P w) := by
  have Hr : Hid ((0 < rl → ra = some ⟨rb, ro, none⟩) ∧ RegsAt w rb ro rl log sec ∧ RegionsOk rl log) := ⟨hra, hr, hok⟩
  clear hra hr hok
  go_enter Tryd.func33, Tryd.ntmps33
  go_wp2_with (fail)
  refine (shape_6 _).mono ?_
  rintro e w1 ⟨g, rfl, hg, m1⟩
  obtain ⟨⟨c0, c1⟩, d0, d1, d2, d3, d4⟩ := boxes2 m1
  have Hg : Hid (∀ j, j < 3 → w1.cell? ⟨g, j, none⟩ = some (.int .i64 (tri 1 0 2 j))) := hg
  have Hm1 : Hid (More w w1) := (((More.refl _).alloc _ _).alloc _ _).trans m1
  clear hg m1
  have HN : Hid True := trivial
  go_wp2
  obtain ⟨W, HW⟩ : ∃ W : World, Hid (W = w1.alloc (.cells #[.int .i64 a, .int .i64 b, .int .i64 c] 3)) := ⟨_, rfl⟩
  have Hm1W : Hid (More w1 W) := HW.out ▸ (More.refl _).alloc _ _
  have Hm : Hid (More w W) := Hm1.out.trans Hm1W.out
  have Hf : Hid (∀ j, j < 3 → W.cell? ⟨w1.heap.size, j, none⟩ = some (.int .i64 (tri a b c j))) := by rw [HW.out]; exact tri_cells (by go_simp) (by go_simp) (by go_simp)
  have Hg' : Hid (∀ j, j < 3 → W.cell? ⟨g, j, none⟩ = some (.int .i64 (tri 1 0 2 j))) := fun j hj => Hm1W.out.cell (Hg.out j hj)
  clear Hg
  replace c0 := Hm1W.out.cell c0
  replace c1 := Hm1W.out.cell c1
  replace d0 := Hm1W.out.cell d0
  replace d1 := Hm1W.out.cell d1
  replace d2 := Hm1W.out.cell d2
  replace d3 := Hm1W.out.cell d3
  replace d4 := Hm1W.out.cell d4
  go_loopg [11] 3 (fun q i wr => ∃ k : Nat, k + q = 3 ∧ i = .int .i64 k ∧ (∀ j, j < k → Fld regs (tri 1 0 2 j) (tri a b c j)) ∧ wr = W)
  case atStart => exact ⟨0, by omega, rfl, fun j hj => by omega, HW.out.symm⟩
  case round =>
    obtain ⟨k, hkg, rfl, hok, rfl⟩ := hrel
    have Hok : Hid (∀ j, j < k → Fld regs (tri 1 0 2 j) (tri a b c j)) := hok
    clear hok
    cases gk with
    | zero =>
      obtain rfl : k = 3 := by omega
      by_cases t0 : c < 0
      · have T : Hid (c < 0) := t0
        go_wp2
        go_ret
        exact ⟨_, rfl, ⟨fun h => by first | (simp at h; done) | (simp at h; omega), fun h => by have h1 := (HP.out.1 h).2.2; have h2 := T.out; have h3 := h1.1.1; omega⟩, Hm.out⟩
      by_cases t1 : (rl : Int) ≤ c
      · have T : Hid ((rl : Int) ≤ c) := t1
        go_wp2
        go_ret
        exact ⟨_, rfl, ⟨fun h => by first | (simp at h; done) | (simp at h; omega), fun h => by have h1 := (HP.out.1 h).2.2; have h2 := T.out; have h3 := h1.1.2; omega⟩, Hm.out⟩
      have hk : c.toNat < rl := by omega
      have t0' : 0 ≤ c := by omega
      have t1' : c < (rl : Int) := by omega
      have Hrgn : Hid (Rgn rl c) := ⟨t0', t1'⟩
      obtain rfl := Hr.out.1 (by omega)
      have q0 := ((Hr.out.2.1.more Hm.out) c.toNat hk).1
      have q1 := ((Hr.out.2.1.more Hm.out) c.toNat hk).2
      have Hlog : Hid (0 ≤ log c.toNat ∧ log c.toNat ≤ 6) := Hr.out.2.2.2 c.toNat hk
      obtain ⟨lk, hlk⟩ : ∃ x, log c.toNat = x := ⟨_, rfl⟩
      rw [hlk] at q0 Hlog
      have Hlk : Hid (log c.toNat = lk) := hlk
      clear hlk
      go_wp2_with (fail)
      obtain ⟨nw, hnw⟩ : ∃ x, wordsI lk = x := ⟨_, rfl⟩
      refine ((ref_words lk Hlog.out.1 Hlog.out.2 (sec c.toNat) _)).mono ?_
      rw [hnw]
      have Hnw : Hid (Wrd log c n ↔ (0 ≤ n ∧ n < nw)) := by unfold Wrd; rw [Hlk.out, ← hnw]; exact Iff.rfl
      clear hnw q0 q1
      rintro e w5 ⟨rfl, m5⟩
      have d4' := m5.cell d4
      clear d4 d3 d2 d1 d0 c0 c1
      have Hm5 : Hid (More w w5) := Hm.out.trans m5
      clear m5
      by_cases t2 : 0 ≤ n
      · by_cases t3 : n < nw
        · have T : Hid (Wrd log c n) := Hnw.out.2 ⟨t2, t3⟩
          go_wp2
          go_ret
          exact ⟨_, rfl, ⟨fun _ => HP.out.2 ⟨HN.out, Hok.out, Hrgn.out, T.out⟩, fun _ => by first | rfl | (simp <;> omega)⟩, Hm5.out⟩
        · have T : Hid (nw ≤ n) := (by omega : nw ≤ n)
          go_wp2
          go_ret
          exact ⟨_, rfl, ⟨fun h => by first | (simp at h; done) | (simp at h; omega), fun h => by have h1 := (HP.out.1 h).2.2; have h2 := T.out; have h3 := (Hnw.out.1 h1.2).2; omega⟩, Hm5.out⟩
      · have T : Hid (n < 0) := (by omega : n < 0)
        go_wp2
        go_ret
        exact ⟨_, rfl, ⟨fun h => by first | (simp at h; done) | (simp at h; omega), fun h => by have h1 := (HP.out.1 h).2.2; have h2 := T.out; have h3 := (Hnw.out.1 h1.2).1; omega⟩, Hm5.out⟩
    | succ q =>
      clear d0 d1 d2 d3 d4 c0 c1
      have hk : k < 3 := by omega
      have hk' : (k : Int) < 3 := by omega
      have hk0 : (0 : Int) ≤ (k : Int) := by omega
      have qg := Hg'.out k hk
      have qf := Hf.out k hk
      obtain ⟨x, hx⟩ : ∃ x, tri 1 0 2 k = x := ⟨_, rfl⟩
      obtain ⟨y, hy⟩ : ∃ y, tri a b c k = y := ⟨_, rfl⟩
      rw [hx] at qg
      rw [hy] at qf
      have HX : Hid (tri 1 0 2 k = x ∧ tri a b c k = y) := ⟨hx, hy⟩
      clear hx hy
      have step : Hid (Fld regs x y → ∀ j, j < k + 1 → Fld regs (tri 1 0 2 j) (tri a b c j)) := by
        intro h j hj
        by_cases e : j = k
        · subst e; rw [HX.out.1, HX.out.2]; exact h
        · exact Hok.out j (by omega)
      have back : Hid ((∀ j, j < 3 → Fld regs (tri 1 0 2 j) (tri a b c j)) → Fld regs x y) := by
        intro h
        have := h k hk
        rw [HX.out.1, HX.out.2] at this
        exact this
      by_cases hx0 : x = 0
      · subst hx0
        by_cases hy0 : y = 0
        · subst hy0
          go_wp2
          go_roundg q
          case measure => omega
          case rel => exact ⟨k + 1, by omega, by first | rfl | simp, step.out ⟨fun _ => rfl, fun h => by simp at h⟩, rfl⟩
        · have hy1 : (y != 0) = true := by simp [hy0]
          have Hy : Hid (¬ y = 0) := hy0
          clear hy0
          go_wp2
          go_ret
          exact Says.no (fun h => Hy.out ((back.out (HP.out.1 h).2.1).1 rfl)) Hm.out
      by_cases hx1 : x = 1
      · subst hx1
        clear hx0
        by_cases hy0 : y < 0
        · have Hy : Hid (y < 0) := hy0
          go_wp2
          go_ret
          exact Says.no (fun h => by have := ((back.out (HP.out.1 h).2.1).2 rfl).1; have := Hy.out; omega) Hm.out
        by_cases hy1 : regs ≤ y
        · have Hy : Hid (regs ≤ y) := hy1
          go_wp2
          go_ret
          exact Says.no (fun h => by have := ((back.out (HP.out.1 h).2.1).2 rfl).2; have := Hy.out; omega) Hm.out
        have Hy : Hid (Reg regs y) := ⟨by omega, by omega⟩
        go_wp2
        go_roundg q
        case measure => omega
        case rel => exact ⟨k + 1, by omega, by first | rfl | simp, step.out ⟨fun h => by simp at h, fun _ => Hy.out⟩, rfl⟩
      have Hx : Hid (¬ x = 0 ∧ ¬ x = 1) := ⟨hx0, hx1⟩
      have hx2 : (x == 0) = false := by simp [hx0]
      have hx3 : (x == 1) = false := by simp [hx1]
      clear hx0 hx1
      go_wp2
      go_roundg q
      case measure => omega
      case rel => exact ⟨k + 1, by omega, by first | rfl | simp, step.out ⟨fun h => absurd h Hx.out.1, fun h => absurd h Hx.out.2⟩, rfl⟩

set_option maxRecDepth 8000 in
set_option maxHeartbeats 1000000 in
theorem ins_7 (ra : Option Addr) (rl rc : Nat) (ca : Option Addr) (cl cc : Nat) (a b c n regs : Int) (w : World) (P : Prop) (HP : Hid (P ↔ (True ∧ (∀ j, j < 3 → Fld regs (tri 0 0 0 j) (tri a b c j)) ∧ Plc cl n))) :
    Calls Tryd.prog 33 #[.agg #[.slice ra rl rc, .slice ca cl cc], .agg #[.int .i64 7, .int .i64 a, .int .i64 b, .int .i64 c, .int .i64 n], .int .i64 regs] w (Says P w) := by
  go_enter Tryd.func33, Tryd.ntmps33
  go_wp2_with (fail)
  refine (shape_7 _).mono ?_
  rintro e w1 ⟨g, rfl, hg, m1⟩
  obtain ⟨⟨c0, c1⟩, d0, d1, d2, d3, d4⟩ := boxes2 m1
  have Hg : Hid (∀ j, j < 3 → w1.cell? ⟨g, j, none⟩ = some (.int .i64 (tri 0 0 0 j))) := hg
  have Hm1 : Hid (More w w1) := (((More.refl _).alloc _ _).alloc _ _).trans m1
  clear hg m1
  have HN : Hid True := trivial
  go_wp2
  obtain ⟨W, HW⟩ : ∃ W : World, Hid (W = w1.alloc (.cells #[.int .i64 a, .int .i64 b, .int .i64 c] 3)) := ⟨_, rfl⟩
  have Hm1W : Hid (More w1 W) := HW.out ▸ (More.refl _).alloc _ _
  have Hm : Hid (More w W) := Hm1.out.trans Hm1W.out
  have Hf : Hid (∀ j, j < 3 → W.cell? ⟨w1.heap.size, j, none⟩ = some (.int .i64 (tri a b c j))) := by rw [HW.out]; exact tri_cells (by go_simp) (by go_simp) (by go_simp)
  have Hg' : Hid (∀ j, j < 3 → W.cell? ⟨g, j, none⟩ = some (.int .i64 (tri 0 0 0 j))) := fun j hj => Hm1W.out.cell (Hg.out j hj)
  clear Hg
  replace c0 := Hm1W.out.cell c0
  replace c1 := Hm1W.out.cell c1
  replace d0 := Hm1W.out.cell d0
  replace d1 := Hm1W.out.cell d1
  replace d2 := Hm1W.out.cell d2
  replace d3 := Hm1W.out.cell d3
  replace d4 := Hm1W.out.cell d4
  go_loopg [11] 3 (fun q i wr => ∃ k : Nat, k + q = 3 ∧ i = .int .i64 k ∧ (∀ j, j < k → Fld regs (tri 0 0 0 j) (tri a b c j)) ∧ wr = W)
  case atStart => exact ⟨0, by omega, rfl, fun j hj => by omega, HW.out.symm⟩
  case round =>
    obtain ⟨k, hkg, rfl, hok, rfl⟩ := hrel
    have Hok : Hid (∀ j, j < k → Fld regs (tri 0 0 0 j) (tri a b c j)) := hok
    clear hok
    cases gk with
    | zero =>
      obtain rfl : k = 3 := by omega
      by_cases t0 : 0 ≤ n
      · by_cases t1 : n < (cl : Int)
        · have T : Hid (0 ≤ n ∧ n < (cl : Int)) := ⟨t0, t1⟩
          go_wp2
          go_ret
          exact ⟨_, rfl, ⟨fun _ => HP.out.2 ⟨HN.out, Hok.out, T.out⟩, fun _ => by first | rfl | (simp <;> omega)⟩, Hm.out⟩
        · have T : Hid (¬ n < (cl : Int)) := t1
          go_wp2
          go_ret
          exact ⟨_, rfl, ⟨fun h => by first | (simp at h; done) | (simp at h; omega), fun h => by have h1 := (HP.out.1 h).2.2; have h2 := T.out; have h3 := h1.2; omega⟩, Hm.out⟩
      · have T : Hid (¬ 0 ≤ n) := t0
        go_wp2
        go_ret
        exact ⟨_, rfl, ⟨fun h => by first | (simp at h; done) | (simp at h; omega), fun h => by have h1 := (HP.out.1 h).2.2; have h2 := T.out; have h3 := h1.1; omega⟩, Hm.out⟩
    | succ q =>
      clear d0 d1 d2 d3 d4 c0 c1
      have hk : k < 3 := by omega
      have hk' : (k : Int) < 3 := by omega
      have hk0 : (0 : Int) ≤ (k : Int) := by omega
      have qg := Hg'.out k hk
      have qf := Hf.out k hk
      obtain ⟨x, hx⟩ : ∃ x, tri 0 0 0 k = x := ⟨_, rfl⟩
      obtain ⟨y, hy⟩ : ∃ y, tri a b c k = y := ⟨_, rfl⟩
      rw [hx] at qg
      rw [hy] at qf
      have HX : Hid (tri 0 0 0 k = x ∧ tri a b c k = y) := ⟨hx, hy⟩
      clear hx hy
      have step : Hid (Fld regs x y → ∀ j, j < k + 1 → Fld regs (tri 0 0 0 j) (tri a b c j)) := by
        intro h j hj
        by_cases e : j = k
        · subst e; rw [HX.out.1, HX.out.2]; exact h
        · exact Hok.out j (by omega)
      have back : Hid ((∀ j, j < 3 → Fld regs (tri 0 0 0 j) (tri a b c j)) → Fld regs x y) := by
        intro h
        have := h k hk
        rw [HX.out.1, HX.out.2] at this
        exact this
      by_cases hx0 : x = 0
      · subst hx0
        by_cases hy0 : y = 0
        · subst hy0
          go_wp2
          go_roundg q
          case measure => omega
          case rel => exact ⟨k + 1, by omega, by first | rfl | simp, step.out ⟨fun _ => rfl, fun h => by simp at h⟩, rfl⟩
        · have hy1 : (y != 0) = true := by simp [hy0]
          have Hy : Hid (¬ y = 0) := hy0
          clear hy0
          go_wp2
          go_ret
          exact Says.no (fun h => Hy.out ((back.out (HP.out.1 h).2.1).1 rfl)) Hm.out
      by_cases hx1 : x = 1
      · subst hx1
        clear hx0
        by_cases hy0 : y < 0
        · have Hy : Hid (y < 0) := hy0
          go_wp2
          go_ret
          exact Says.no (fun h => by have := ((back.out (HP.out.1 h).2.1).2 rfl).1; have := Hy.out; omega) Hm.out
        by_cases hy1 : regs ≤ y
        · have Hy : Hid (regs ≤ y) := hy1
          go_wp2
          go_ret
          exact Says.no (fun h => by have := ((back.out (HP.out.1 h).2.1).2 rfl).2; have := Hy.out; omega) Hm.out
        have Hy : Hid (Reg regs y) := ⟨by omega, by omega⟩
        go_wp2
        go_roundg q
        case measure => omega
        case rel => exact ⟨k + 1, by omega, by first | rfl | simp, step.out ⟨fun h => by simp at h, fun _ => Hy.out⟩, rfl⟩
      have Hx : Hid (¬ x = 0 ∧ ¬ x = 1) := ⟨hx0, hx1⟩
      have hx2 : (x == 0) = false := by simp [hx0]
      have hx3 : (x == 1) = false := by simp [hx1]
      clear hx0 hx1
      go_wp2
      go_roundg q
      case measure => omega
      case rel => exact ⟨k + 1, by omega, by first | rfl | simp, step.out ⟨fun h => absurd h Hx.out.1, fun h => absurd h Hx.out.2⟩, rfl⟩
set_option maxRecDepth 8000 in
set_option maxHeartbeats 1000000 in
theorem ins_8 (ra : Option Addr) (rl rc : Nat) (ca : Option Addr) (cl cc : Nat) (a b c n regs : Int) (w : World) (P : Prop) (HP : Hid (P ↔ (True ∧ (∀ j, j < 3 → Fld regs (tri 1 1 2 j) (tri a b c j)) ∧ (1 ≤ c ∧ c ≤ 4) ∧ Plc cl n))) :
    Calls Tryd.prog 33 #[.agg #[.slice ra rl rc, .slice ca cl cc], .agg #[.int .i64 8, .int .i64 a, .int .i64 b, .int .i64 c, .int .i64 n], .int .i64 regs] w (Says P w) := by
  go_enter Tryd.func33, Tryd.ntmps33
  go_wp2_with (fail)
  refine (shape_8 _).mono ?_
  rintro e w1 ⟨g, rfl, hg, m1⟩
  obtain ⟨⟨c0, c1⟩, d0, d1, d2, d3, d4⟩ := boxes2 m1
  have Hg : Hid (∀ j, j < 3 → w1.cell? ⟨g, j, none⟩ = some (.int .i64 (tri 1 1 2 j))) := hg
  have Hm1 : Hid (More w w1) := (((More.refl _).alloc _ _).alloc _ _).trans m1
  clear hg m1
  have HN : Hid True := trivial
  go_wp2
  obtain ⟨W, HW⟩ : ∃ W : World, Hid (W = w1.alloc (.cells #[.int .i64 a, .int .i64 b, .int .i64 c] 3)) := ⟨_, rfl⟩
  have Hm1W : Hid (More w1 W) := HW.out ▸ (More.refl _).alloc _ _
  have Hm : Hid (More w W) := Hm1.out.trans Hm1W.out
  have Hf : Hid (∀ j, j < 3 → W.cell? ⟨w1.heap.size, j, none⟩ = some (.int .i64 (tri a b c j))) := by rw [HW.out]; exact tri_cells (by go_simp) (by go_simp) (by go_simp)
  have Hg' : Hid (∀ j, j < 3 → W.cell? ⟨g, j, none⟩ = some (.int .i64 (tri 1 1 2 j))) := fun j hj => Hm1W.out.cell (Hg.out j hj)
  clear Hg
  replace c0 := Hm1W.out.cell c0
  replace c1 := Hm1W.out.cell c1
  replace d0 := Hm1W.out.cell d0
  replace d1 := Hm1W.out.cell d1
  replace d2 := Hm1W.out.cell d2
  replace d3 := Hm1W.out.cell d3
  replace d4 := Hm1W.out.cell d4
  go_loopg [11] 3 (fun q i wr => ∃ k : Nat, k + q = 3 ∧ i = .int .i64 k ∧ (∀ j, j < k → Fld regs (tri 1 1 2 j) (tri a b c j)) ∧ wr = W)
  case atStart => exact ⟨0, by omega, rfl, fun j hj => by omega, HW.out.symm⟩
  case round =>
    obtain ⟨k, hkg, rfl, hok, rfl⟩ := hrel
    have Hok : Hid (∀ j, j < k → Fld regs (tri 1 1 2 j) (tri a b c j)) := hok
    clear hok
    cases gk with
    | zero =>
      obtain rfl : k = 3 := by omega
      by_cases t0 : 1 ≤ c
      rotate_left
      · have T : Hid (¬ 1 ≤ c) := t0
        go_wp2
        go_ret
        exact ⟨_, rfl, ⟨fun h => by first | (simp at h; done) | (simp at h; omega), fun h => by have h1 := (HP.out.1 h).2.2; have h2 := T.out; have h3 := h1.1.1; omega⟩, Hm.out⟩
      by_cases t1 : c ≤ 4
      rotate_left
      · have T : Hid (¬ c ≤ 4) := t1
        go_wp2
        go_ret
        exact ⟨_, rfl, ⟨fun h => by first | (simp at h; done) | (simp at h; omega), fun h => by have h1 := (HP.out.1 h).2.2; have h2 := T.out; have h3 := h1.1.2; omega⟩, Hm.out⟩
      by_cases t2 : 0 ≤ n
      rotate_left
      · have T : Hid (¬ 0 ≤ n) := t2
        go_wp2
        go_ret
        exact ⟨_, rfl, ⟨fun h => by first | (simp at h; done) | (simp at h; omega), fun h => by have h1 := (HP.out.1 h).2.2; have h2 := T.out; have h3 := h1.2.1; omega⟩, Hm.out⟩
      by_cases t3 : n < (cl : Int)
      rotate_left
      · have T : Hid (¬ n < (cl : Int)) := t3
        go_wp2
        go_ret
        exact ⟨_, rfl, ⟨fun h => by first | (simp at h; done) | (simp at h; omega), fun h => by have h1 := (HP.out.1 h).2.2; have h2 := T.out; have h3 := h1.2.2; omega⟩, Hm.out⟩
      have T : Hid ((1 ≤ c ∧ c ≤ 4) ∧ 0 ≤ n ∧ n < (cl : Int)) := ⟨⟨t0, t1⟩, t2, t3⟩
      go_wp2
      go_ret
      exact ⟨_, rfl, ⟨fun _ => HP.out.2 ⟨HN.out, Hok.out, T.out⟩, fun _ => by first | rfl | (simp <;> omega)⟩, Hm.out⟩
    | succ q =>
      clear d0 d1 d2 d3 d4 c0 c1
      have hk : k < 3 := by omega
      have hk' : (k : Int) < 3 := by omega
      have hk0 : (0 : Int) ≤ (k : Int) := by omega
      have qg := Hg'.out k hk
      have qf := Hf.out k hk
      obtain ⟨x, hx⟩ : ∃ x, tri 1 1 2 k = x := ⟨_, rfl⟩
      obtain ⟨y, hy⟩ : ∃ y, tri a b c k = y := ⟨_, rfl⟩
      rw [hx] at qg
      rw [hy] at qf
      have HX : Hid (tri 1 1 2 k = x ∧ tri a b c k = y) := ⟨hx, hy⟩
      clear hx hy
      have step : Hid (Fld regs x y → ∀ j, j < k + 1 → Fld regs (tri 1 1 2 j) (tri a b c j)) := by
        intro h j hj
        by_cases e : j = k
        · subst e; rw [HX.out.1, HX.out.2]; exact h
        · exact Hok.out j (by omega)
      have back : Hid ((∀ j, j < 3 → Fld regs (tri 1 1 2 j) (tri a b c j)) → Fld regs x y) := by
        intro h
        have := h k hk
        rw [HX.out.1, HX.out.2] at this
        exact this
      by_cases hx0 : x = 0
      · subst hx0
        by_cases hy0 : y = 0
        · subst hy0
          go_wp2
          go_roundg q
          case measure => omega
          case rel => exact ⟨k + 1, by omega, by first | rfl | simp, step.out ⟨fun _ => rfl, fun h => by simp at h⟩, rfl⟩
        · have hy1 : (y != 0) = true := by simp [hy0]
          have Hy : Hid (¬ y = 0) := hy0
          clear hy0
          go_wp2
          go_ret
          exact Says.no (fun h => Hy.out ((back.out (HP.out.1 h).2.1).1 rfl)) Hm.out
      by_cases hx1 : x = 1
      · subst hx1
        clear hx0
        by_cases hy0 : y < 0
        · have Hy : Hid (y < 0) := hy0
          go_wp2
          go_ret
          exact Says.no (fun h => by have := ((back.out (HP.out.1 h).2.1).2 rfl).1; have := Hy.out; omega) Hm.out
        by_cases hy1 : regs ≤ y
        · have Hy : Hid (regs ≤ y) := hy1
          go_wp2
          go_ret
          exact Says.no (fun h => by have := ((back.out (HP.out.1 h).2.1).2 rfl).2; have := Hy.out; omega) Hm.out
        have Hy : Hid (Reg regs y) := ⟨by omega, by omega⟩
        go_wp2
        go_roundg q
        case measure => omega
        case rel => exact ⟨k + 1, by omega, by first | rfl | simp, step.out ⟨fun h => by simp at h, fun _ => Hy.out⟩, rfl⟩
      have Hx : Hid (¬ x = 0 ∧ ¬ x = 1) := ⟨hx0, hx1⟩
      have hx2 : (x == 0) = false := by simp [hx0]
      have hx3 : (x == 1) = false := by simp [hx1]
      clear hx0 hx1
      go_wp2
      go_roundg q
      case measure => omega
      case rel => exact ⟨k + 1, by omega, by first | rfl | simp, step.out ⟨fun h => absurd h Hx.out.1, fun h => absurd h Hx.out.2⟩, rfl⟩

set_option maxRecDepth 8000 in
set_option maxHeartbeats 1000000 in
theorem ins_10 (ra : Option Addr) (rl rc : Nat) (ca : Option Addr) (cl cc : Nat) (a b c n regs : Int) (w : World) (P : Prop) (HP : Hid (P ↔ (True ∧ (∀ j, j < 3 → Fld regs (tri 1 1 0 j) (tri a b c j)) ∧ True))) :
    Calls Tryd.prog 33 #[.agg #[.slice ra rl rc, .slice ca cl cc], .agg #[.int .i64 10, .int .i64 a, .int .i64 b, .int .i64 c, .int .i64 n], .int .i64 regs] w (Says P w) := by
  go_enter Tryd.func33, Tryd.ntmps33
  go_wp2_with (fail)
  refine (shape_10 _).mono ?_
  rintro e w1 ⟨g, rfl, hg, m1⟩
  obtain ⟨⟨c0, c1⟩, d0, d1, d2, d3, d4⟩ := boxes2 m1
  have Hg : Hid (∀ j, j < 3 → w1.cell? ⟨g, j, none⟩ = some (.int .i64 (tri 1 1 0 j))) := hg
  have Hm1 : Hid (More w w1) := (((More.refl _).alloc _ _).alloc _ _).trans m1
  clear hg m1
  have HN : Hid True := trivial
  go_wp2
  obtain ⟨W, HW⟩ : ∃ W : World, Hid (W = w1.alloc (.cells #[.int .i64 a, .int .i64 b, .int .i64 c] 3)) := ⟨_, rfl⟩
  have Hm1W : Hid (More w1 W) := HW.out ▸ (More.refl _).alloc _ _
  have Hm : Hid (More w W) := Hm1.out.trans Hm1W.out
  have Hf : Hid (∀ j, j < 3 → W.cell? ⟨w1.heap.size, j, none⟩ = some (.int .i64 (tri a b c j))) := by rw [HW.out]; exact tri_cells (by go_simp) (by go_simp) (by go_simp)
  have Hg' : Hid (∀ j, j < 3 → W.cell? ⟨g, j, none⟩ = some (.int .i64 (tri 1 1 0 j))) := fun j hj => Hm1W.out.cell (Hg.out j hj)
  clear Hg
  replace c0 := Hm1W.out.cell c0
  replace c1 := Hm1W.out.cell c1
  replace d0 := Hm1W.out.cell d0
  replace d1 := Hm1W.out.cell d1
  replace d2 := Hm1W.out.cell d2
  replace d3 := Hm1W.out.cell d3
  replace d4 := Hm1W.out.cell d4
  go_loopg [11] 3 (fun q i wr => ∃ k : Nat, k + q = 3 ∧ i = .int .i64 k ∧ (∀ j, j < k → Fld regs (tri 1 1 0 j) (tri a b c j)) ∧ wr = W)
  case atStart => exact ⟨0, by omega, rfl, fun j hj => by omega, HW.out.symm⟩
  case round =>
    obtain ⟨k, hkg, rfl, hok, rfl⟩ := hrel
    have Hok : Hid (∀ j, j < k → Fld regs (tri 1 1 0 j) (tri a b c j)) := hok
    clear hok
    cases gk with
    | zero =>
      obtain rfl : k = 3 := by omega
      go_wp2
      go_ret
      exact Says.yes (HP.out.2 ⟨HN.out, Hok.out, trivial⟩) Hm.out
    | succ q =>
      clear d0 d1 d2 d3 d4 c0 c1
      have hk : k < 3 := by omega
      have hk' : (k : Int) < 3 := by omega
      have hk0 : (0 : Int) ≤ (k : Int) := by omega
      have qg := Hg'.out k hk
      have qf := Hf.out k hk
      obtain ⟨x, hx⟩ : ∃ x, tri 1 1 0 k = x := ⟨_, rfl⟩
      obtain ⟨y, hy⟩ : ∃ y, tri a b c k = y := ⟨_, rfl⟩
      rw [hx] at qg
      rw [hy] at qf
      have HX : Hid (tri 1 1 0 k = x ∧ tri a b c k = y) := ⟨hx, hy⟩
      clear hx hy
      have step : Hid (Fld regs x y → ∀ j, j < k + 1 → Fld regs (tri 1 1 0 j) (tri a b c j)) := by
        intro h j hj
        by_cases e : j = k
        · subst e; rw [HX.out.1, HX.out.2]; exact h
        · exact Hok.out j (by omega)
      have back : Hid ((∀ j, j < 3 → Fld regs (tri 1 1 0 j) (tri a b c j)) → Fld regs x y) := by
        intro h
        have := h k hk
        rw [HX.out.1, HX.out.2] at this
        exact this
      by_cases hx0 : x = 0
      · subst hx0
        by_cases hy0 : y = 0
        · subst hy0
          go_wp2
          go_roundg q
          case measure => omega
          case rel => exact ⟨k + 1, by omega, by first | rfl | simp, step.out ⟨fun _ => rfl, fun h => by simp at h⟩, rfl⟩
        · have hy1 : (y != 0) = true := by simp [hy0]
          have Hy : Hid (¬ y = 0) := hy0
          clear hy0
          go_wp2
          go_ret
          exact Says.no (fun h => Hy.out ((back.out (HP.out.1 h).2.1).1 rfl)) Hm.out
      by_cases hx1 : x = 1
      · subst hx1
        clear hx0
        by_cases hy0 : y < 0
        · have Hy : Hid (y < 0) := hy0
          go_wp2
          go_ret
          exact Says.no (fun h => by have := ((back.out (HP.out.1 h).2.1).2 rfl).1; have := Hy.out; omega) Hm.out
        by_cases hy1 : regs ≤ y
        · have Hy : Hid (regs ≤ y) := hy1
          go_wp2
          go_ret
          exact Says.no (fun h => by have := ((back.out (HP.out.1 h).2.1).2 rfl).2; have := Hy.out; omega) Hm.out
        have Hy : Hid (Reg regs y) := ⟨by omega, by omega⟩
        go_wp2
        go_roundg q
        case measure => omega
        case rel => exact ⟨k + 1, by omega, by first | rfl | simp, step.out ⟨fun h => by simp at h, fun _ => Hy.out⟩, rfl⟩
      have Hx : Hid (¬ x = 0 ∧ ¬ x = 1) := ⟨hx0, hx1⟩
      have hx2 : (x == 0) = false := by simp [hx0]
      have hx3 : (x == 1) = false := by simp [hx1]
      clear hx0 hx1
      go_wp2
      go_roundg q
      case measure => omega
      case rel => exact ⟨k + 1, by omega, by first | rfl | simp, step.out ⟨fun h => absurd h Hx.out.1, fun h => absurd h Hx.out.2⟩, rfl⟩

set_option maxRecDepth 8000 in
set_option maxHeartbeats 1000000 in
theorem ins_11 (ra : Option Addr) (rl rc : Nat) (ca : Option Addr) (cl cc : Nat) (a b c n regs : Int) (w : World) (P : Prop) (HP : Hid (P ↔ (True ∧ (∀ j, j < 3 → Fld regs (tri 1 0 0 j) (tri a b c j)) ∧ 1 ≤ n ∧ n ≤ 64))) :
    Calls Tryd.prog 33 #[.agg #[.slice ra rl rc, .slice ca cl cc], .agg #[.int .i64 11, .int .i64 a, .int .i64 b, .int .i64 c, .int .i64 n], .int .i64 regs] w (Says P w) := by
  go_enter Tryd.func33, Tryd.ntmps33
  go_wp2_with (fail)
  refine (shape_11 _).mono ?_
  rintro e w1 ⟨g, rfl, hg, m1⟩
  obtain ⟨⟨c0, c1⟩, d0, d1, d2, d3, d4⟩ := boxes2 m1
  have Hg : Hid (∀ j, j < 3 → w1.cell? ⟨g, j, none⟩ = some (.int .i64 (tri 1 0 0 j))) := hg
  have Hm1 : Hid (More w w1) := (((More.refl _).alloc _ _).alloc _ _).trans m1
  clear hg m1
  have HN : Hid True := trivial
  go_wp2
  obtain ⟨W, HW⟩ : ∃ W : World, Hid (W = w1.alloc (.cells #[.int .i64 a, .int .i64 b, .int .i64 c] 3)) := ⟨_, rfl⟩
  have Hm1W : Hid (More w1 W) := HW.out ▸ (More.refl _).alloc _ _
  have Hm : Hid (More w W) := Hm1.out.trans Hm1W.out
  have Hf : Hid (∀ j, j < 3 → W.cell? ⟨w1.heap.size, j, none⟩ = some (.int .i64 (tri a b c j))) := by rw [HW.out]; exact tri_cells (by go_simp) (by go_simp) (by go_simp)
  have Hg' : Hid (∀ j, j < 3 → W.cell? ⟨g, j, none⟩ = some (.int .i64 (tri 1 0 0 j))) := fun j hj => Hm1W.out.cell (Hg.out j hj)
  clear Hg
  replace c0 := Hm1W.out.cell c0
  replace c1 := Hm1W.out.cell c1
  replace d0 := Hm1W.out.cell d0
  replace d1 := Hm1W.out.cell d1
  replace d2 := Hm1W.out.cell d2
  replace d3 := Hm1W.out.cell d3
  replace d4 := Hm1W.out.cell d4
  go_loopg [11] 3 (fun q i wr => ∃ k : Nat, k + q = 3 ∧ i = .int .i64 k ∧ (∀ j, j < k → Fld regs (tri 1 0 0 j) (tri a b c j)) ∧ wr = W)
  case atStart => exact ⟨0, by omega, rfl, fun j hj => by omega, HW.out.symm⟩
  case round =>
    obtain ⟨k, hkg, rfl, hok, rfl⟩ := hrel
    have Hok : Hid (∀ j, j < k → Fld regs (tri 1 0 0 j) (tri a b c j)) := hok
    clear hok
    cases gk with
    | zero =>
      obtain rfl : k = 3 := by omega
      by_cases t0 : 1 ≤ n
      · by_cases t1 : n ≤ 64
        · have T : Hid (1 ≤ n ∧ n ≤ 64) := ⟨t0, t1⟩
          go_wp2
          go_ret
          exact ⟨_, rfl, ⟨fun _ => HP.out.2 ⟨HN.out, Hok.out, T.out⟩, fun _ => by first | rfl | (simp <;> omega)⟩, Hm.out⟩
        · have T : Hid (¬ n ≤ 64) := t1
          go_wp2
          go_ret
          exact ⟨_, rfl, ⟨fun h => by first | (simp at h; done) | (simp at h; omega), fun h => by have h1 := (HP.out.1 h).2.2; have h2 := T.out; have h3 := h1.2; omega⟩, Hm.out⟩
      · have T : Hid (¬ 1 ≤ n) := t0
        go_wp2
        go_ret
        exact ⟨_, rfl, ⟨fun h => by first | (simp at h; done) | (simp at h; omega), fun h => by have h1 := (HP.out.1 h).2.2; have h2 := T.out; have h3 := h1.1; omega⟩, Hm.out⟩
    | succ q =>
      clear d0 d1 d2 d3 d4 c0 c1
      have hk : k < 3 := by omega
      have hk' : (k : Int) < 3 := by omega
      have hk0 : (0 : Int) ≤ (k : Int) := by omega
      have qg := Hg'.out k hk
      have qf := Hf.out k hk
      obtain ⟨x, hx⟩ : ∃ x, tri 1 0 0 k = x := ⟨_, rfl⟩
      obtain ⟨y, hy⟩ : ∃ y, tri a b c k = y := ⟨_, rfl⟩
      rw [hx] at qg
      rw [hy] at qf
      have HX : Hid (tri 1 0 0 k = x ∧ tri a b c k = y) := ⟨hx, hy⟩
      clear hx hy
      have step : Hid (Fld regs x y → ∀ j, j < k + 1 → Fld regs (tri 1 0 0 j) (tri a b c j)) := by
        intro h j hj
        by_cases e : j = k
        · subst e; rw [HX.out.1, HX.out.2]; exact h
        · exact Hok.out j (by omega)
      have back : Hid ((∀ j, j < 3 → Fld regs (tri 1 0 0 j) (tri a b c j)) → Fld regs x y) := by
        intro h
        have := h k hk
        rw [HX.out.1, HX.out.2] at this
        exact this
      by_cases hx0 : x = 0
      · subst hx0
        by_cases hy0 : y = 0
        · subst hy0
          go_wp2
          go_roundg q
          case measure => omega
          case rel => exact ⟨k + 1, by omega, by first | rfl | simp, step.out ⟨fun _ => rfl, fun h => by simp at h⟩, rfl⟩
        · have hy1 : (y != 0) = true := by simp [hy0]
          have Hy : Hid (¬ y = 0) := hy0
          clear hy0
          go_wp2
          go_ret
          exact Says.no (fun h => Hy.out ((back.out (HP.out.1 h).2.1).1 rfl)) Hm.out
      by_cases hx1 : x = 1
      · subst hx1
        clear hx0
        by_cases hy0 : y < 0
        · have Hy : Hid (y < 0) := hy0
          go_wp2
          go_ret
          exact Says.no (fun h => by have := ((back.out (HP.out.1 h).2.1).2 rfl).1; have := Hy.out; omega) Hm.out
        by_cases hy1 : regs ≤ y
        · have Hy : Hid (regs ≤ y) := hy1
          go_wp2
          go_ret
          exact Says.no (fun h => by have := ((back.out (HP.out.1 h).2.1).2 rfl).2; have := Hy.out; omega) Hm.out
        have Hy : Hid (Reg regs y) := ⟨by omega, by omega⟩
        go_wp2
        go_roundg q
        case measure => omega
        case rel => exact ⟨k + 1, by omega, by first | rfl | simp, step.out ⟨fun h => by simp at h, fun _ => Hy.out⟩, rfl⟩
      have Hx : Hid (¬ x = 0 ∧ ¬ x = 1) := ⟨hx0, hx1⟩
      have hx2 : (x == 0) = false := by simp [hx0]
      have hx3 : (x == 1) = false := by simp [hx1]
      clear hx0 hx1
      go_wp2
      go_roundg q
      case measure => omega
      case rel => exact ⟨k + 1, by omega, by first | rfl | simp, step.out ⟨fun h => absurd h Hx.out.1, fun h => absurd h Hx.out.2⟩, rfl⟩

set_option maxRecDepth 8000 in
set_option maxHeartbeats 1000000 in
theorem ins_op (ra : Option Addr) (rl rc : Nat) (ca : Option Addr) (cl cc : Nat) (op : Int) (o1 : 20 < op) (o2 : op ≤ 30) (a b c n regs : Int) (w : World) (P : Prop) (HP : Hid (P ↔ (n = 0 ∧ (∀ j, j < 3 → Fld regs (tri 1 1 1 j) (tri a b c j)) ∧ True))) :
    Calls Tryd.prog 33 #[.agg #[.slice ra rl rc, .slice ca cl cc], .agg #[.int .i64 op, .int .i64 a, .int .i64 b, .int .i64 c, .int .i64 n], .int .i64 regs] w (Says P w) := by
  go_enter Tryd.func33, Tryd.ntmps33
  go_wp2_with (fail)
  refine (shape_op op o1 o2 _).mono ?_
  rintro e w1 ⟨g, rfl, hg, m1⟩
  obtain ⟨⟨c0, c1⟩, d0, d1, d2, d3, d4⟩ := boxes2 m1
  have Hg : Hid (∀ j, j < 3 → w1.cell? ⟨g, j, none⟩ = some (.int .i64 (tri 1 1 1 j))) := hg
  have Hm1 : Hid (More w w1) := (((More.refl _).alloc _ _).alloc _ _).trans m1
  clear hg m1
  by_cases hn0 : n = 0
  rotate_left
  · have HN : Hid (¬ n = 0) := hn0
    have hn1 : (n != 0) = true := by simp [hn0]
    clear hn0
    go_wp2
    go_ret
    exact Says.no (fun h => HN.out (HP.out.1 h).1) Hm1.out
  have HN : Hid (n = 0) := hn0
  have hn1 : (n != 0) = false := by simp [hn0]
  clear hn0
  go_wp2
  obtain ⟨W, HW⟩ : ∃ W : World, Hid (W = w1.alloc (.cells #[.int .i64 a, .int .i64 b, .int .i64 c] 3)) := ⟨_, rfl⟩
  have Hm1W : Hid (More w1 W) := HW.out ▸ (More.refl _).alloc _ _
  have Hm : Hid (More w W) := Hm1.out.trans Hm1W.out
  have Hf : Hid (∀ j, j < 3 → W.cell? ⟨w1.heap.size, j, none⟩ = some (.int .i64 (tri a b c j))) := by rw [HW.out]; exact tri_cells (by go_simp) (by go_simp) (by go_simp)
  have Hg' : Hid (∀ j, j < 3 → W.cell? ⟨g, j, none⟩ = some (.int .i64 (tri 1 1 1 j))) := fun j hj => Hm1W.out.cell (Hg.out j hj)
  clear Hg
  replace c0 := Hm1W.out.cell c0
  replace c1 := Hm1W.out.cell c1
  replace d0 := Hm1W.out.cell d0
  replace d1 := Hm1W.out.cell d1
  replace d2 := Hm1W.out.cell d2
  replace d3 := Hm1W.out.cell d3
  replace d4 := Hm1W.out.cell d4
  go_loopg [11] 3 (fun q i wr => ∃ k : Nat, k + q = 3 ∧ i = .int .i64 k ∧ (∀ j, j < k → Fld regs (tri 1 1 1 j) (tri a b c j)) ∧ wr = W)
  case atStart => exact ⟨0, by omega, rfl, fun j hj => by omega, HW.out.symm⟩
  case round =>
    obtain ⟨k, hkg, rfl, hok, rfl⟩ := hrel
    have Hok : Hid (∀ j, j < k → Fld regs (tri 1 1 1 j) (tri a b c j)) := hok
    clear hok
    cases gk with
    | zero =>
      obtain rfl : k = 3 := by omega
      go_wp2
      go_ret
      exact Says.yes (HP.out.2 ⟨HN.out, Hok.out, trivial⟩) Hm.out
    | succ q =>
      clear d0 d1 d2 d3 d4 c0 c1
      have hk : k < 3 := by omega
      have hk' : (k : Int) < 3 := by omega
      have hk0 : (0 : Int) ≤ (k : Int) := by omega
      have qg := Hg'.out k hk
      have qf := Hf.out k hk
      obtain ⟨x, hx⟩ : ∃ x, tri 1 1 1 k = x := ⟨_, rfl⟩
      obtain ⟨y, hy⟩ : ∃ y, tri a b c k = y := ⟨_, rfl⟩
      rw [hx] at qg
      rw [hy] at qf
      have HX : Hid (tri 1 1 1 k = x ∧ tri a b c k = y) := ⟨hx, hy⟩
      clear hx hy
      have step : Hid (Fld regs x y → ∀ j, j < k + 1 → Fld regs (tri 1 1 1 j) (tri a b c j)) := by
        intro h j hj
        by_cases e : j = k
        · subst e; rw [HX.out.1, HX.out.2]; exact h
        · exact Hok.out j (by omega)
      have back : Hid ((∀ j, j < 3 → Fld regs (tri 1 1 1 j) (tri a b c j)) → Fld regs x y) := by
        intro h
        have := h k hk
        rw [HX.out.1, HX.out.2] at this
        exact this
      by_cases hx0 : x = 0
      · subst hx0
        by_cases hy0 : y = 0
        · subst hy0
          go_wp2
          go_roundg q
          case measure => omega
          case rel => exact ⟨k + 1, by omega, by first | rfl | simp, step.out ⟨fun _ => rfl, fun h => by simp at h⟩, rfl⟩
        · have hy1 : (y != 0) = true := by simp [hy0]
          have Hy : Hid (¬ y = 0) := hy0
          clear hy0
          go_wp2
          go_ret
          exact Says.no (fun h => Hy.out ((back.out (HP.out.1 h).2.1).1 rfl)) Hm.out
      by_cases hx1 : x = 1
      · subst hx1
        clear hx0
        by_cases hy0 : y < 0
        · have Hy : Hid (y < 0) := hy0
          go_wp2
          go_ret
          exact Says.no (fun h => by have := ((back.out (HP.out.1 h).2.1).2 rfl).1; have := Hy.out; omega) Hm.out
        by_cases hy1 : regs ≤ y
        · have Hy : Hid (regs ≤ y) := hy1
          go_wp2
          go_ret
          exact Says.no (fun h => by have := ((back.out (HP.out.1 h).2.1).2 rfl).2; have := Hy.out; omega) Hm.out
        have Hy : Hid (Reg regs y) := ⟨by omega, by omega⟩
        go_wp2
        go_roundg q
        case measure => omega
        case rel => exact ⟨k + 1, by omega, by first | rfl | simp, step.out ⟨fun h => by simp at h, fun _ => Hy.out⟩, rfl⟩
      have Hx : Hid (¬ x = 0 ∧ ¬ x = 1) := ⟨hx0, hx1⟩
      have hx2 : (x == 0) = false := by simp [hx0]
      have hx3 : (x == 1) = false := by simp [hx1]
      clear hx0 hx1
      go_wp2
      go_roundg q
      case measure => omega
      case rel => exact ⟨k + 1, by omega, by first | rfl | simp, step.out ⟨fun h => absurd h Hx.out.1, fun h => absurd h Hx.out.2⟩, rfl⟩
end
section
open Go.RowKit
set_option linter.unusedSimpArgs false
theorem tri_all (regs x y z a b c : Int) : (∀ j, j < 3 → Fld regs (tri x y z j) (tri a b c j)) ↔ Fld regs x a ∧ Fld regs y b ∧ Fld regs z c := by
  constructor
  · intro h
    exact ⟨h 0 (by omega), h 1 (by omega), h 2 (by omega)⟩
  · rintro ⟨h0, h1, h2⟩ j hj
    have : j = 0 ∨ j = 1 ∨ j = 2 := by omega
    rcases this with rfl | rfl | rfl
    · exact h0
    · exact h1
    · exact h2
theorem fld0 (regs f : Int) : Fld regs 0 f ↔ f = 0 := by unfold Fld; simp
theorem fld1 (regs f : Int) : Fld regs 1 f ↔ Reg regs f := by unfold Fld; simp
theorem fld2 (regs f : Int) : Fld regs 2 f ↔ True := by unfold Fld; simp

set_option maxRecDepth 8000 in
theorem ins_else (ra : Option Addr) (rl rc : Nat) (ca : Option Addr) (cl cc : Nat) (op a b c n regs : Int) (h1 : ¬ op = 1) (h2 : ¬ op = 2) (h3 : ¬ op = 3) (h4 : ¬ op = 4) (h5 : ¬ op = 5) (h6 : ¬ op = 6) (h7 : ¬ op = 7) (h8 : ¬ op = 8) (h9 : ¬ op = 9) (h10 : ¬ op = 10) (h11 : ¬ op = 11) (h12 : ¬ op = 12) (h : ¬ (20 < op ∧ op ≤ 30)) (w : World) :
    Calls Tryd.prog 33 #[.agg #[.slice ra rl rc, .slice ca cl cc], .agg #[.int .i64 op, .int .i64 a, .int .i64 b, .int .i64 c, .int .i64 n], .int .i64 regs] w fun e w' => e = .returned (.bool false) ∧ More w w' := by
  have Hs : Hid (∀ w : World, Calls Tryd.prog 47 #[.int .i64 op] w fun e w' => e = .returned (.tuple #[.slice none 0 0, .bool false, .bool false]) ∧ w' = w) := fun w => shape_else op h1 h2 h3 h4 h5 h6 h7 h8 h9 h10 h11 h12 h w
  clear h1 h2 h3 h4 h5 h6 h7 h8 h9 h10 h11 h12 h
  go_enter Tryd.func33, Tryd.ntmps33
  go_wp2_with (fail)
  refine (Hs.out _).mono ?_
  rintro e w1 ⟨rfl, rfl⟩
  go_wp2
  go_ret
  exact ⟨rfl, ((More.refl _).alloc _ _).alloc _ _⟩

theorem ref_ins (ra : Option Addr) (rl rc : Nat) (ca : Option Addr) (cl cc : Nat) (op a b c n regs : Int) (w : World) (rb ro : Nat) (log : Nat → Int) (sec : Nat → Bool) (hra : 0 < rl → ra = some ⟨rb, ro, none⟩) (hr : RegsAt w rb ro rl log sec) (hok : RegionsOk rl log) :
    Calls Tryd.prog 33 #[.agg #[.slice ra rl rc, .slice ca cl cc], .agg #[.int .i64 op, .int .i64 a, .int .i64 b, .int .i64 c, .int .i64 n], .int .i64 regs] w (Says (InsOk rl log cl regs ⟨op, a, b, c, n⟩) w) := by
  by_cases h1 : op = 1
  · subst h1
    refine ins_1 ra rl rc ca cl cc a b c n regs w _ ?_
    show _ ↔ _
    rw [tri_all]; simp only [fld0, fld1, fld2]
    unfold InsOk
    simp [and_assoc, and_comm, and_left_comm]
  by_cases h2 : op = 2
  · subst h2
    refine ins_2 ra rl rc ca cl cc a b c n regs w _ ?_
    show _ ↔ _
    rw [tri_all]; simp only [fld0, fld1, fld2]
    unfold InsOk
    simp [and_assoc, and_comm, and_left_comm]
  by_cases h3 : op = 3
  · subst h3
    refine ins_3 ra rl rc ca cl cc a b c n regs w _ ?_
    show _ ↔ _
    rw [tri_all]; simp only [fld0, fld1, fld2]
    unfold InsOk
    simp [and_assoc, and_comm, and_left_comm]
  by_cases h4 : op = 4
  · subst h4
    refine ins_4 ra rl rc ca cl cc a b c n regs w _ ?_
    show _ ↔ _
    rw [tri_all]; simp only [fld0, fld1, fld2]
    unfold InsOk
    simp [and_assoc, and_comm, and_left_comm]
  by_cases h5 : op = 5
  · subst h5
    refine ins_5 ra rl rc ca cl cc a b c n regs w rb ro log sec hra hr hok _ ?_
    show _ ↔ _
    rw [tri_all]; simp only [fld0, fld1, fld2]
    unfold InsOk
    simp [and_assoc, and_comm, and_left_comm]
  by_cases h6 : op = 6
  · subst h6
    refine ins_6 ra rl rc ca cl cc a b c n regs w rb ro log sec hra hr hok _ ?_
    show _ ↔ _
    rw [tri_all]; simp only [fld0, fld1, fld2]
    unfold InsOk
    simp [and_assoc, and_comm, and_left_comm]
  by_cases h7 : op = 7
  · subst h7
    refine ins_7 ra rl rc ca cl cc a b c n regs w _ ?_
    show _ ↔ _
    rw [tri_all]; simp only [fld0, fld1, fld2]
    unfold InsOk
    simp [and_assoc, and_comm, and_left_comm]
  by_cases h8 : op = 8
  · subst h8
    refine ins_8 ra rl rc ca cl cc a b c n regs w _ ?_
    show _ ↔ _
    rw [tri_all]; simp only [fld0, fld1, fld2]
    unfold InsOk
    simp [and_assoc, and_comm, and_left_comm]
  by_cases h9 : op = 9
  · subst h9
    refine ins_9 ra rl rc ca cl cc a b c n regs w _ ?_
    show _ ↔ _
    rw [tri_all]; simp only [fld0, fld1, fld2]
    unfold InsOk
    simp [and_assoc, and_comm, and_left_comm]
  by_cases h10 : op = 10
  · subst h10
    refine ins_10 ra rl rc ca cl cc a b c n regs w _ ?_
    show _ ↔ _
    rw [tri_all]; simp only [fld0, fld1, fld2]
    unfold InsOk
    simp [and_assoc, and_comm, and_left_comm]
  by_cases h11 : op = 11
  · subst h11
    refine ins_11 ra rl rc ca cl cc a b c n regs w _ ?_
    show _ ↔ _
    rw [tri_all]; simp only [fld0, fld1, fld2]
    unfold InsOk
    simp [and_assoc, and_comm, and_left_comm]
  by_cases h12 : op = 12
  · subst h12
    refine ins_12 ra rl rc ca cl cc a b c n regs w _ ?_
    show _ ↔ _
    rw [tri_all]; simp only [fld0, fld1, fld2]
    unfold InsOk
    simp [and_assoc, and_comm, and_left_comm]
  by_cases ho : 20 < op ∧ op ≤ 30
  · refine ins_op ra rl rc ca cl cc op ho.1 ho.2 a b c n regs w _ ?_
    show _ ↔ _
    rw [tri_all]; simp only [fld1]
    unfold InsOk
    rw [if_neg h1, if_neg h2, if_neg h3, if_neg h4, if_neg h5, if_neg h6, if_neg h7, if_neg h8, if_neg h9, if_neg h10, if_neg h11, if_neg h12]
    constructor
    · exact fun h => ⟨h.2.2.2.2, ⟨h.2.1, h.2.2.1, h.2.2.2.1⟩, trivial⟩
    · exact fun h => ⟨⟨by have := ho.1; show (21 : Int) ≤ op; omega, ho.2⟩, h.2.1.1, h.2.1.2.1, h.2.1.2.2, h.1⟩
  refine (ins_else ra rl rc ca cl cc op a b c n regs h1 h2 h3 h4 h5 h6 h7 h8 h9 h10 h11 h12 ho w).mono ?_
  rintro e w' ⟨rfl, m⟩
  refine Says.no (fun h => ?_) m
  unfold InsOk at h
  rw [if_neg h1, if_neg h2, if_neg h3, if_neg h4, if_neg h5, if_neg h6, if_neg h7, if_neg h8, if_neg h9, if_neg h10, if_neg h11, if_neg h12] at h
  exact ho ⟨by have := h.1.1; dsimp only at this; omega, h.1.2⟩

set_option maxHeartbeats 1000000 in
theorem ref_is (ra : Option Addr) (rl rc : Nat) (ca : Option Addr) (cl cc : Nat) (code regs : Int) (rb ro cb co : Nat) (log : Nat → Int) (sec : Nat → Bool) (ins : Nat → Ins) (w : World) (most : Nat) (hcode : code = most) (hmost : most ≤ 8000)
    (hra : 0 < rl → ra = some ⟨rb, ro, none⟩) (hr : RegsAt w rb ro rl log sec) (hca : 0 < cl → ca = some ⟨cb, co, none⟩) (hc : CodeAt w cb co cl ins) :
    Calls Tryd.prog 18 #[.agg #[.slice ra rl rc, .slice ca cl cc], .int .i64 code, .int .i64 regs] w (Says (RegionsOk rl log ∧ CodeOk rl log cl ins most regs) w) := by
  have Hcd : Hid (code = most ∧ most ≤ 8000) := ⟨hcode, hmost⟩
  have Hr : Hid ((0 < rl → ra = some ⟨rb, ro, none⟩) ∧ RegsAt w rb ro rl log sec) := ⟨hra, hr⟩
  have Hc : Hid ((0 < cl → ca = some ⟨cb, co, none⟩) ∧ CodeAt w cb co cl ins) := ⟨hca, hc⟩
  obtain ⟨Pr, HP⟩ : ∃ Pr : Prop, Hid (Pr ↔ (RegionsOk rl log ∧ CodeOk rl log cl ins most regs)) := ⟨_, Iff.rfl⟩
  rw [← propext HP.out]
  clear hcode hmost hra hr hca hc
  go_enter Tryd.func18, Tryd.ntmps18
  go_wp2_with (fail)
  refine (ref_regions ra rl rc ca cl cc rb ro log sec _ Hr.out.1 (Hr.out.2.more ((More.refl _).alloc _ _))).mono ?_
  rintro e w1 ⟨r, rfl, h, m1⟩
  have e0 : w1.cell? ⟨w.heap.size, 0, none⟩ = some (.slice ra rl rc) := m1.cell (by go_simp)
  have e1 : w1.cell? ⟨w.heap.size, 1, none⟩ = some (.slice ca cl cc) := m1.cell (by go_simp)
  have Hm1 : Hid (More w w1) := ((More.refl _).alloc _ _).trans m1
  clear m1
  cases r with
  | false =>
    have HA : Hid (¬ RegionsOk rl log) := fun k => by simpa using h.2 k
    clear h
    go_wp2
    go_ret
    exact Says.no (fun h => HA.out (HP.out.1 h).1) Hm1.out
  | true =>
    have HA : Hid (RegionsOk rl log) := h.1 rfl
    clear h
    by_cases h1 : (cl : Int) < 1
    · have T : Hid ((cl : Int) < 1) := h1
      go_wp2
      go_ret
      exact Says.no (fun h => by have := (HP.out.1 h).2.1; have := T.out; omega) Hm1.out
    by_cases h2 : code < (cl : Int)
    · have T : Hid (code < (cl : Int)) := h2
      go_wp2
      go_ret
      exact Says.no (fun h => by have := (HP.out.1 h).2.2.1; have := Hcd.out.1; have := T.out; omega) Hm1.out
    have Hl : Hid (1 ≤ cl ∧ cl ≤ most) := ⟨by omega, by have := Hcd.out.1; omega⟩
    have He : Hid (w1.cell? ⟨w.heap.size, 0, none⟩ = some (.slice ra rl rc) ∧ w1.cell? ⟨w.heap.size, 1, none⟩ = some (.slice ca cl cc)) := ⟨e0, e1⟩
    go_wp2
    clear e0 e1
    go_loopg [7] cl (fun g i wr => ∃ k : Nat, k + g = cl ∧ i = .int .i64 k ∧ (∀ j, j < k → InsOk rl log cl regs (ins j)) ∧ More w wr ∧ wr.cell? ⟨w.heap.size, 0, none⟩ = some (.slice ra rl rc) ∧ wr.cell? ⟨w.heap.size, 1, none⟩ = some (.slice ca cl cc))
    case atStart => exact ⟨0, by omega, rfl, fun j hj => by omega, Hm1.out, He.out.1, He.out.2⟩
    case round =>
      obtain ⟨k, hkg, rfl, hin, m, e0, e1⟩ := hrel
      have Hm : Hid (More w wr ∧ ∀ j, j < k → InsOk rl log cl regs (ins j)) := ⟨m, hin⟩
      clear m hin
      cases gk with
      | zero =>
        obtain rfl : k = cl := by omega
        go_wp2
        go_ret
        exact Says.yes (HP.out.2 ⟨HA.out, Hl.out.1, Hl.out.2, Hm.out.2⟩) Hm.out.1
      | succ g =>
        have hk : k < cl := by omega
        have hk' : (k : Int) < (cl : Int) := by omega
        have hk0 : (0 : Int) ≤ (k : Int) := by omega
        obtain rfl := Hc.out.1 (by omega)
        have hcell := (Hc.out.2.more Hm.out.1) k hk
        cases hI : ins k with
        | mk op a b c n =>
        rw [hI] at hcell
        have HI : Hid (ins k = ⟨op, a, b, c, n⟩) := hI
        clear hI
        obtain ⟨q0, q1, q2, q3, q4⟩ := hcell
        obtain ⟨S, HS⟩ : ∃ S : World → Prop, Hid (∀ w', S w' ↔ More wr w') := ⟨fun w' => More wr w', fun _ => Iff.rfl⟩
        have k0 : ∀ i : { w' // S w' }, i.val.cell? ⟨w.heap.size, 0, none⟩ = some (.slice ra rl rc) := fun i => ((HS.out _).1 i.property).cell e0
        have k1 : ∀ i : { w' // S w' }, i.val.cell? ⟨w.heap.size, 1, none⟩ = some (.slice (some ⟨cb, co, none⟩) cl cc) := fun i => ((HS.out _).1 i.property).cell e1
        have d0 : ∀ i : { w' // S w' }, i.val.cell? ⟨cb, co + k * 5, none⟩ = some (.int .i64 op) := fun i => ((HS.out _).1 i.property).cell q0
        have d1 : ∀ i : { w' // S w' }, i.val.cell? ⟨cb, co + k * 5 + 1, none⟩ = some (.int .i64 a) := fun i => ((HS.out _).1 i.property).cell q1
        have d2 : ∀ i : { w' // S w' }, i.val.cell? ⟨cb, co + k * 5 + 2, none⟩ = some (.int .i64 b) := fun i => ((HS.out _).1 i.property).cell q2
        have d3 : ∀ i : { w' // S w' }, i.val.cell? ⟨cb, co + k * 5 + 3, none⟩ = some (.int .i64 c) := fun i => ((HS.out _).1 i.property).cell q3
        have d4 : ∀ i : { w' // S w' }, i.val.cell? ⟨cb, co + k * 5 + 4, none⟩ = some (.int .i64 n) := fun i => ((HS.out _).1 i.property).cell q4
        have hne : Nonempty { w' // S w' } := ⟨⟨wr, (HS.out _).2 (More.refl _)⟩⟩
        go_wp2_with (fail)
        refine wp_region_ord (S := S) [(0, true), (1, true), (2, true), (3, true), (4, true), (5, true), (6, true), (7, false), (8, true)] (by kernel_rfl) (by kernel_rfl) (by kernel_rfl) ((HS.out _).2 (More.refl _).drew) ?_
        iterate 7 (refine wpOrd_take rfl (by kernel_rfl) (fun K hK => ?_); go_simp; refine hK _ _ ?_; clear hK K)
        refine wpOrd_busy rfl (by kernel_rfl) (fun K hK => ?_); go_simp
        refine (ref_ins ra rl rc _ cl cc op a b c n regs _ rb ro log sec Hr.out.1 (Hr.out.2.more (Hm.out.1.trans (More.refl _).drew)) HA.out).mono ?_
        rintro e w2 ⟨r2, rfl, hr2, m2⟩
        have Hm2 : Hid (More wr w2) := (More.refl _).drew.trans m2
        clear m2
        have e0' := Hm2.out.cell e0
        have e1' := Hm2.out.cell e1
        clear e0 e1
        cases r2 with
        | false =>
          have HF : Hid (¬ InsOk rl log cl regs ⟨op, a, b, c, n⟩) := fun h => by simpa using hr2.2 h
          clear hr2
          go_simp
          refine hK _ _ ((HS.out _).2 Hm2.out) ?_; clear hK K
          refine wpOrd_take rfl (by kernel_rfl) (fun K hK => ?_); go_simp; refine hK _ _ ?_; clear hK K
          refine wpOrd_done ?_
          clear k0 k1 d0 d1 d2 d3 d4 hne q0 q1 q2 q3 q4
          go_wp2
          go_ret
          exact Says.no (fun h => HF.out (HI.out ▸ (HP.out.1 h).2.2.2 k hk)) (Hm.out.1.trans Hm2.out)
        | true =>
          have HF : Hid (InsOk rl log cl regs ⟨op, a, b, c, n⟩) := hr2.1 rfl
          clear hr2
          go_simp
          refine hK _ _ ((HS.out _).2 Hm2.out) ?_; clear hK K
          refine wpOrd_take rfl (by kernel_rfl) (fun K hK => ?_); go_simp; refine hK _ _ ?_; clear hK K
          refine wpOrd_done ?_
          clear k0 k1 d0 d1 d2 d3 d4 hne q0 q1 q2 q3 q4
          go_wp2
          go_roundg g
          case measure => omega
          case rel =>
            refine ⟨k + 1, by omega, by first | rfl | (simp; unfold wrap64; have := Hl.out.2; have := Hcd.out.2; omega), fun j hj => ?_, Hm.out.1.trans Hm2.out, e0', e1'⟩
            by_cases e : j = k
            · subst e; rw [HI.out]; exact HF.out
            · exact Hm.out.2 j (by omega)

theorem ref_hard (p : Prg) (l : Loc) (w : World) (h : PIn w p l) :
    Calls Tryd.prog 8 #[.agg #[.slice l.ra p.rl l.rc, .slice l.ca p.cl l.cc]] w (Says (p.Ok 8000 10) w) := by
  have H : Hid (PIn w p l) := h
  clear h
  go_enter Tryd.func8, Tryd.ntmps8
  go_wp2_with (fail)
  have m0 : More w (w.alloc (.cells #[.slice l.ra p.rl l.rc, .slice l.ca p.cl l.cc] 25)) := (More.refl _).alloc _ _
  refine (ref_is l.ra p.rl l.rc l.ca p.cl l.cc 8000 10 l.rb l.ro l.cb l.co p.log p.sec p.ins _ 8000 rfl (by omega) H.out.hr (H.out.regs.more m0) H.out.hc (H.out.code.more m0)).mono ?_
  rintro e w1 ⟨r, rfl, h1, m1⟩
  have H1 : Hid ((r = true ↔ p.Ok 8000 10) ∧ More w w1) := ⟨h1, m0.trans m1⟩
  clear h1 m1 m0
  go_wp2
  go_ret
  exact ⟨r, rfl, H1.out.1, H1.out.2⟩
end
section
open Go
section
variable {P : Program} {ops : Array Oper} {Q : Exit → Act → World → Prop} {md : Region.Mode} {S : World → Prop}

/-- Does operation j wait for every other one? -/
def waitsB (md : Region.Mode) (ops : Array Oper) (j : Nat) : Bool :=
  match ops[j]? with
  | none => false
  | some o => (List.range ops.size).all fun i => i == j || o.after.any fun e => Region.binds md e && e.on == i

/-- Whatever comes up: behind it S holds, unless it waited for all. -/
def AnyL (P : Program) (md : Region.Mode) (ops : Array Oper) (Q : Exit → Act → World → Prop) (S : World → Prop) : Nat → Array Bool → Act → World → Prop
  | 0, l, a, w => Region.ready md ops l = [] ∧ Q .normal a w
  | n + 1, l, a, w => (Region.ready md ops l = [] → Q .normal a w) ∧ ∀ i ∈ Region.ready md ops l, wpOp P ops Q i (fun a' w' => (waitsB md ops i = false → S w') ∧ AnyL P md ops Q S n (l.setIfInBounds i true) a' w') a w

theorem AnyL.any : ∀ (n : Nat) (l : Array Bool) (a : Act) (w : World), AnyL P md ops Q S n l a w → wpAny P md ops Q n l a w
  | 0, _, _, _, h => h
  | n + 1, _, _, _, h => ⟨h.1, fun i hi => wpOp_mono (fun a' w' h' => AnyL.any n _ a' w' h'.2) (h.2 i hi)⟩

/-- One that may come up while another is unlisted does not wait for that one. -/
theorem waits_no {i j : Nat} {l : Array Bool} (hi : i ∈ Region.ready md ops l) (hj : j ∈ Region.ready md ops l) (hne : j ≠ i) : waitsB md ops j = false := by
  cases hb : waitsB md ops j with
  | false => rfl
  | true =>
    exfalso
    obtain ⟨_, oj, hoj, hall⟩ := mem_ready.1 hj
    obtain ⟨hun, oi, hoi, _⟩ := mem_ready.1 hi
    unfold waitsB at hb
    rw [hoj] at hb
    dsimp only at hb
    rw [List.all_eq_true] at hb
    have h1 := hb i (List.mem_range.2 (Array.getElem?_eq_some_iff.1 hoi).1)
    rw [Bool.or_eq_true] at h1
    rcases h1 with h1 | h1
    · exact hne (by simpa using h1 : i = j).symm
    · obtain ⟨e, he, hbe⟩ := Array.any_eq_true'.1 h1
      rw [Bool.and_eq_true, beq_iff_eq] at hbe
      have h2 := hall e he hbe.1
      rw [hbe.2] at h2
      rcases Nat.lt_or_ge i l.size with h' | h'
      · simp [h'] at hun h2; rw [hun] at h2; cases h2
      · simp [Array.getElem?_eq_none h'] at h2

theorem AnyL.take {i : Nat} {oi : Oper} {v : Value} (hi : ops[i]? = some oi) (hs : Region.noSelect ops = true) (hQ : ∀ c a w, Q (.panic c) (a.put oi.dst v) w → Q (.panic c) a w) :
    ∀ (n : Nat) (l : Array Bool) (a : Act) (w : World), (∀ j oj, ops[j]? = some oj → j ≠ i → l.getD j true = false → (∀ e ∈ oj.after, Region.binds md e = true → e.on ≠ i) → oi.apart ops oj = true) →
      i ∈ Region.ready md ops l → YieldsIf P ops S oi v a → S w → AnyL P md ops Q S n (l.setIfInBounds i true) (a.put oi.dst v) w → AnyL P md ops Q S (n + 1) l a w
  | n, l, a, w, hf, hr, hy, hS, H => by
    refine ⟨fun h => absurd hr (by rw [h]; simp), fun j hj => ?_⟩
    by_cases hji : j = i
    · subst hji
      exact hy.wpOp hi hS ⟨fun _ => hS, H⟩
    have hjm := ready_mono hj hji
    cases n with
    | zero => rw [H.1] at hjm; cases hjm
    | succ n =>
      obtain ⟨hjun, oj, hoj, hall⟩ := mem_ready.1 hj
      have hno : ∀ e ∈ oj.after, Region.binds md e = true → e.on ≠ i := fun e he hb hei => by
        have h1 := hall e he hb
        have h0 := (mem_ready.1 hr).1
        rw [hei] at h1
        rcases Nat.lt_or_ge i l.size with h' | h'
        · simp [h'] at h0 h1; rw [h0] at h1; cases h1
        · simp [Array.getElem?_eq_none h'] at h1
      have h2 := wpOp_putIf hoj (hf j oj hoj hji hjun hno) (fun cs b => Region.noSelect_spec hs i oi cs b hi) (fun cs b => Region.noSelect_spec hs j oj cs b hoj) hQ hy (H.2 j hjm)
      have hw := waits_no hr hj hji
      refine wpOp_mono (fun a' w' h3 => ?_) h2
      have hS' := h3.2.1 hw
      refine ⟨fun _ => hS', AnyL.take hi hs hQ n (l.setIfInBounds j true) a' w' (fun k ok hk hki hun hno' => hf k ok hk hki ?_ hno') (ready_mono hr (Ne.symm hji)) h3.1 hS' ?_⟩
      · by_cases e : j = k
        · subst e; exact hjun
        · rw [getD_set_ne true e] at hun; exact hun
      · rw [Array.setIfInBounds_comm _ _ hji]
        exact h3.2.2

/-- The walk by a named order. -/
def wpOrdZ (P : Program) (ops : Array Oper) (Q : Exit → Act → World → Prop) (S : World → Prop) : List (Nat × Bool) → Act → World → Prop
  | [], a, w => Q .normal a w
  | (i, t) :: rest, a, w =>
    match ops[i]? with
    | none => False
    | some o => if t then OrdTake P ops S o a w (fun a' w' => wpOrdZ P ops Q S rest a' w') else OrdBusy P ops Q o a w (fun a' w' => (waitsB .any ops i = false → S w') ∧ (rest ≠ [] → S w') ∧ wpOrdZ P ops Q S rest a' w')

theorem wpOrdZ_any (hs : Region.noSelect ops = true) (hQ : ∀ c (a : Act) d v w, Q (.panic c) (a.put d v) w → Q (.panic c) a w) :
    ∀ (l : List (Nat × Bool)) (listed : Array Bool) (a : Act) (w : World), ordB .any ops l listed = true → (l ≠ [] → S w) → wpOrdZ P ops Q S l a w → AnyL P .any ops Q S l.length listed a w
  | [], listed, a, w, hB, _, h => ⟨by simpa [ordB] using hB, h⟩
  | (i, t) :: rest, listed, a, w, hB, hS, h => by
    replace hS : S w := hS (by simp)
    simp only [ordB, Bool.and_eq_true] at hB
    obtain ⟨⟨ho, hc⟩, hB'⟩ := hB
    obtain ⟨o, ho⟩ := Option.isSome_iff_exists.1 ho
    simp only [wpOrdZ, ho] at h
    cases t with
    | true =>
      simp only [if_true, Bool.and_eq_true] at hc h
      unfold OrdTake at h
      have hr : i ∈ Region.ready .any ops listed := by simpa using hc.2
      by_cases hw : Region.wanted o (yielded ops a.tmps) = true
      · rw [if_pos hw] at h
        obtain ⟨v, hv, hk⟩ := h
        exact AnyL.take ho hs (fun c a w => hQ c a _ _ w) _ _ _ _ (Region.free_spec ho hc.1) hr (.inl ⟨hw, fun w' hw' => hv ⟨w', hw'⟩⟩) hS (wpOrdZ_any hs hQ rest _ _ _ hB' (fun _ => hS) hk)
      · rw [if_neg hw] at h
        exact AnyL.take ho hs (fun c a w => hQ c a _ _ w) _ _ _ _ (Region.free_spec ho hc.1) hr (.inr ⟨by simpa using hw, rfl⟩) hS (wpOrdZ_any hs hQ rest _ _ _ hB' (fun _ => hS) h)
    | false =>
      simp only [Bool.false_eq_true, if_false, beq_iff_eq] at hc h
      refine ⟨fun h0 => absurd (hc.symm.trans h0) (by simp), fun j hj => ?_⟩
      obtain rfl : j = i := by rw [hc] at hj; simpa using hj
      unfold OrdBusy at h
      unfold wpOp
      rw [ho]
      show if Region.wanted o (yielded ops a.tmps) = true then _ else _
      by_cases hw : Region.wanted o (yielded ops a.tmps) = true
      · rw [if_pos hw] at h ⊢
        exact .inl (Oper.wp_mono (fun a' w' h' => ⟨h'.1, wpOrdZ_any hs hQ rest _ _ _ hB' h'.2.1 h'.2.2⟩) h)
      · rw [if_neg hw] at h ⊢
        exact ⟨h.1, wpOrdZ_any hs hQ rest _ _ _ hB' h.2.1 h.2.2⟩

structure OrdZ (P : Program) (ops : Array Oper) (Q : Exit → Act → World → Prop) (S : World → Prop) (l : List (Nat × Bool)) (a : Act) (w : World) : Prop where
  out : wpOrdZ P ops Q S l a w

theorem wp_region_last {id : Nat} {a : Act} {w : World} (l : List (Nat × Bool)) (hm : P.follows .mixedOrders = true) (hs : Region.noSelect ops = true)
    (hB : (ordB .any ops l (Array.replicate ops.size false) && l.length == ops.size) = true) (hS : S w.drew) (h : OrdZ P ops (NoPanic Q) S l a w.drew) : (Code.region id ops true).wp P Q a w := by
  rw [Bool.and_eq_true] at hB
  have hl : l.length = ops.size := by simpa using hB.2
  refine wp_region_noPanic (wp_region_any hm ?_)
  rw [← hl]
  have := wpOrdZ_any (P := P) (S := S) (Q := NoPanic Q) hs (fun _ _ _ _ _ h => h) l (Array.replicate ops.size false) a w.drew hB.1 (fun _ => hS) h.out
  have := this.any
  rwa [← hl] at this

theorem wpOrdZ_take {ls : List Oper} {i : Nat} {o : Oper} {rest : List (Nat × Bool)} {a : Act} {w : World} (ho' : nth ls i = some o) (hw : Region.wanted o (yielded ls.toArray a.tmps) = true)
    (h : ∀ K : Act → World → Prop, (∀ a w, OrdZ P ls.toArray Q S rest a w → K a w) → ∃ v, (∀ i : { w' // S w' }, (execOp a.eval o).run P i.val = .ok (.value v) i.val) ∧ K (a.put o.dst v) w) :
    OrdZ P ls.toArray Q S ((i, true) :: rest) a w := by
  have ho := nth_arr ho'
  refine ⟨?_⟩
  simp only [wpOrdZ, ho]
  unfold OrdTake
  simp only [if_true]
  rw [if_pos hw]
  exact h _ (fun _ _ h => h.out)
theorem wpOrdZ_busy {ls : List Oper} {i : Nat} {o : Oper} {rest : List (Nat × Bool)} {a : Act} {w : World} (ho' : nth ls i = some o) (hw : Region.wanted o (yielded ls.toArray a.tmps) = true)
    (h : ∀ K : Act → World → Prop, (∀ a w, S w → OrdZ P ls.toArray Q S rest a w → K a w) → Oper.wp P o a w K Q) : OrdZ P ls.toArray Q S ((i, false) :: rest) a w := by
  have ho := nth_arr ho'
  refine ⟨?_⟩
  simp only [wpOrdZ, ho, Bool.false_eq_true, if_false]
  unfold OrdBusy
  rw [if_pos hw]
  exact h _ (fun _ _ hs h => ⟨fun _ => hs, fun _ => hs, h.out⟩)
/-- The last one, which waits for all. -/
theorem wpOrdZ_last {ls : List Oper} {i : Nat} {o : Oper} {a : Act} {w : World} (ho' : nth ls i = some o) (hw : Region.wanted o (yielded ls.toArray a.tmps) = true) (hl : waitsB .any ls.toArray i = true)
    (h : ∀ K : Act → World → Prop, (∀ a w, Q .normal a w → K a w) → Oper.wp P o a w K Q) : OrdZ P ls.toArray Q S [(i, false)] a w := by
  have ho := nth_arr ho'
  refine ⟨?_⟩
  simp only [wpOrdZ, ho, Bool.false_eq_true, if_false]
  unfold OrdBusy
  rw [if_pos hw]
  exact h _ (fun _ _ h => ⟨fun e => absurd (hl.symm.trans e) (by simp), fun e => absurd rfl e, h⟩)
end
end
section
open Go.RowKit
set_option linter.unusedSimpArgs false
set_option linter.unusedVariables false
set_option maxRecDepth 8000
theorem info_ins12 : (Tryd.prog.info? 49).map (fun i => (i.zero, i.size, i.bytes)) = some (some (.agg #[.int .i64 0, .int .i64 0, .int .i64 0, .int .i64 0, .int .i64 0]), 5, 40) := by kernel_rfl
theorem info_reg12 : (Tryd.prog.info? 42).map (fun i => (i.zero, i.size, i.bytes)) = some (some (.agg #[.int .i64 0, .bool false]), 2, 16) := by kernel_rfl

/-- What Parse answers. -/
def ParsAns (s : List UInt8) (w : World) (e : Ending) (w' : World) : Prop :=
  More w w' ∧ ((∃ (rs : List (Int × Bool)) (cs : List Ins) (l : Loc), ReadsAs s rs cs ∧ PIn w' (prgOf rs cs) l ∧ e = .returned (.tuple #[.agg #[.slice l.ra rs.length l.rc, .slice l.ca cs.length l.cc], .agg #[.int .i64 0, .int .i64 0]])) ∨
    (∃ k : Nat, FailsAt s k ∧ e = .returned (.tuple #[.agg #[.slice none 0 0, .slice none 0 0], .agg #[.int .i64 2, .int .i64 k]])))

theorem splitL_short (b : UInt8) : ∀ (x : List UInt8) (y : List UInt8), y ∈ splitL b x → y.length ≤ x.length
  | [], y, h => by
    have : y = [] := by simpa [splitL] using h
    simp [this]
  | c :: l, y, h => by
    have ih := splitL_short b l
    rw [splitL] at h
    split at h
    · rcases List.mem_cons.1 h with rfl | h
      · simp
      · have := ih y h; simp; omega
    · have := (splitL_length b l).1
      cases hl : splitL b l with
      | nil => rw [hl] at this; simp at this
      | cons p r =>
        rw [hl] at h ih
        rcases List.mem_cons.1 h with rfl | h
        · have := ih p (by simp); simp; omega
        · have := ih y (by simp [h]); simp; omega

set_option maxHeartbeats 8000000 in
theorem parse12_calls (s : List UInt8) (w : World) (hs : s.length ≤ 1099511627776) : Calls Tryd.prog 11 #[.string (txt s)] w (ParsAns s w) := by
  suffices hP : ∀ P : Ending → World → Prop, (∀ e w', ParsAns s w e w' → P e w') → Calls Tryd.prog 11 #[.string (txt s)] w P from hP _ (fun _ _ h => h)
  intro P hP0
  have Hfail : Hid (∀ (k : Nat) wr, FailsAt s k → More w wr → P (.returned (.tuple #[.agg #[.slice none 0 0, .slice none 0 0], .agg #[.int .i64 2, .int .i64 k]])) ((((wr.setCell ⟨w.heap.size, 0, none⟩ (.slice none 0 0)).setCell ⟨w.heap.size, 1, none⟩ (.slice none 0 0)).setCell ⟨w.heap.size + 1, 0, none⟩ (.int .i64 2)).setCell ⟨w.heap.size + 1, 1, none⟩ (.int .i64 k))) := fun k wr f m =>
    hP0 _ _ ⟨(((m.setCell (by show w.heap.size ≤ _; simp) _).setCell (by show w.heap.size ≤ _; simp) _).setCell (by show w.heap.size ≤ _; simp) _).setCell (by show w.heap.size ≤ _; simp) _, .inr ⟨k, f, rfl⟩⟩
  have HP : Hid (∀ e w', ParsAns s w e w' → P e w') := hP0
  clear hP0
  obtain ⟨i0, hi, hz0, hz1, hz2⟩ := info_parts info_ins12
  have Hi : Hid (Tryd.prog.info? 49 = some i0 ∧ i0.zero = some (.agg #[.int .i64 0, .int .i64 0, .int .i64 0, .int .i64 0, .int .i64 0]) ∧ i0.size = 5 ∧ i0.bytes = 40) := ⟨hi, hz0, hz1, hz2⟩
  clear hi hz0 hz1 hz2
  obtain ⟨j0, hi, hz0, hz1, hz2⟩ := info_parts info_reg12
  have Hj : Hid (Tryd.prog.info? 42 = some j0 ∧ j0.zero = some (.agg #[.int .i64 0, .bool false]) ∧ j0.size = 2 ∧ j0.bytes = 16) := ⟨hi, hz0, hz1, hz2⟩
  clear hi hz0 hz1 hz2
  obtain ⟨L, HL⟩ : ∃ x, Hid (splitL 10 s = x) := ⟨_, rfl⟩
  obtain ⟨n, Hn⟩ : ∃ n, Hid (L.length = n + 1) := ⟨L.length - 1, by have := (splitL_length 10 s).1; rw [HL.out] at this; show _ = _; omega⟩
  have hn : n ≤ 1099511627776 := by have := (splitL_length 10 s).2; rw [HL.out, Hn.out] at this; omega
  have CS : Hid (∀ w1, Calls Tryd.prog 23 #[.string (txt s), .int .u8 10] w1 fun e w' => ∃ g cap, e = .returned (.slice (some ⟨g, 0, none⟩) (n + 1) cap) ∧ w1.heap.size ≤ g ∧ (∀ i x, L[i]? = some x → w'.cell? ⟨g, i, none⟩ = some (.string (txt x))) ∧ More w1 w') := fun w1 => by
    have := split_calls s 10 w1 hs
    rw [HL.out, Hn.out] at this
    exact this
  have HlL : Hid (∀ l ∈ L, l.length ≤ s.length) := fun l hl => splitL_short 10 s l (by rw [HL.out]; exact hl)
  have hs2 := hs
  obtain ⟨ss, Hss⟩ : ∃ x, Hid (txt s = x) := ⟨_, rfl⟩
  rw [Hss.out] at CS ⊢
  obtain ⟨W, HW⟩ : ∃ w_ : World, Hid (w_ = (w.alloc (.cells #[.slice none 0 0, .slice none 0 0] 25)).alloc (.cells #[.int .i64 0, .int .i64 0] 32)) := ⟨_, rfl⟩
  have HmW : Hid (More w W) := HW.out ▸ ((More.refl _).alloc _ _).alloc _ _
  have HbR : Hid (Blk W w.heap.size #[.slice none 0 0, .slice none 0 0] 25) := HW.out ▸ (Blk.last _ _ _).alloc _ _
  have HbF : Hid (Blk W (w.heap.size + 1) #[.int .i64 0, .int .i64 0] 32) := by rw [HW.out]; show Blk _ _ _ _; simpa using Blk.last (w.alloc (.cells #[.slice none 0 0, .slice none 0 0] 25)) #[.int .i64 0, .int .i64 0] 32
  have hn63 : wrap64 ((n : Int) + 1 - 1) = (n : Int) := by unfold wrap64; omega
  go_enter Tryd.func11, Tryd.ntmps11
  go_wp2_with (fail)
  rw [← HW.out]
  refine (CS.out W).mono ?_
  rintro e w1 ⟨lg, lc, rfl, hlg, hcl, m1⟩
  have Hm1 : Hid (More W w1) := m1
  have HC : Hid (∀ i x, L[i]? = some x → w1.cell? ⟨lg, i, none⟩ = some (.string (txt x))) := hcl
  have Hlg : Hid (W.heap.size ≤ lg) := hlg
  clear m1 hcl hlg CS
  have HP0 : Hid (P12 w1 [] [] (.slice none 0 0) (.slice none 0 0) (w1.alloc (.cells #[.slice none 0 0, .slice none 0 0] 25))) := ⟨Blk.last _ _ _, World.ownsRow_nil _ _ _ _, World.ownsRow_nil _ _ _ _, (More.refl _).alloc _ _⟩
  go_wp2_with (fail)
  go_loopg [7] n (fun g kv wr => ∃ (k rl cl : Nat) (rs : List (Int × Bool)) (cs : List Ins) (ra ca : Option Addr) (rc cc : Nat), k + g = n ∧ kv = .int .i64 k ∧ rl + cl = k ∧ Hid (rs.length = rl ∧ cs.length = cl ∧ ParsK L k rs cs ∧ P12 w1 rs cs (.slice ra rl rc) (.slice ca cl cc) wr))
  case atStart => exact ⟨0, 0, 0, [], [], none, none, 0, 0, by omega, rfl, rfl, rfl, rfl, ⟨rfl, rfl⟩, HP0.out⟩
  case round =>
    obtain ⟨k, rl, cl, rs, cs, ra, ca, rc, cc, hkg, rfl, hkl, Hr⟩ := hrel
    clear HP0
    obtain ⟨l, Hl⟩ : ∃ l, Hid (L[k]? = some l) := ⟨L[k]'(by rw [Hn.out]; omega), by show _ = _; exact List.getElem?_eq_getElem _⟩
    have lcell : wr.cell? ⟨lg, k, none⟩ = some (.string (txt l)) := Hr.out.2.2.2.more.cell (HC.out k l Hl.out)
    have Hll : Hid (l.length ≤ 1099511627776) := Nat.le_trans (HlL.out l (List.mem_of_getElem? Hl.out)) hs2
    have Hwm : Hid (More w wr) := (HmW.out.trans Hm1.out).trans Hr.out.2.2.2.more
    have hgw : lg < wr.heap.size := cell_block lcell
    cases gk with
    | zero =>
      obtain rfl : k = n := by omega
      have p0 : wr.cell? ⟨w1.heap.size, 0, none⟩ = some (.slice ra rl rc) := Hr.out.2.2.2.prg.cell rfl
      have p1 : wr.cell? ⟨w1.heap.size, 1, none⟩ = some (.slice ca cl cc) := Hr.out.2.2.2.prg.cell rfl
      have E0 : Hid (Blk wr w.heap.size #[.slice none 0 0, .slice none 0 0] 25) := (HbR.out.more Hm1.out).more Hr.out.2.2.2.more
      have E1 : Hid (Blk wr (w.heap.size + 1) #[.int .i64 0, .int .i64 0] 32) := (HbF.out.more Hm1.out).more Hr.out.2.2.2.more
      have hsz : w.heap.size + 2 ≤ w1.heap.size := by have h1 := HbF.out.lt; have h2 := Hm1.out.size; omega
      by_cases he : l = []
      · have hbq : (txt l).toList = [] := by rw [ByteArray.toList_mk]; exact he
        obtain ⟨tl, Htl⟩ : ∃ x, Hid (txt l = x) := ⟨_, rfl⟩
        rw [Htl.out] at hbq lcell
        obtain ⟨lo, e1, e2, hin, hrb, hcb⟩ := Hr.out.2.2.2.pin
        have CH : Calls Tryd.prog 8 #[.agg #[.slice ra rl rc, .slice ca cl cc]] wr fun e w' => ∃ r : Bool, e = .returned (.bool r) ∧ (r = true ↔ (prgOf rs cs).Ok 8000 10) ∧ More wr w' := by
          rw [e1, e2]
          exact ref_hard (prgOf rs cs) lo wr hin
        have Hno : Hid (∀ w2, ¬ (prgOf rs cs).Ok 8000 10 → More w w2 → P (.returned (.tuple #[.agg #[.slice none 0 0, .slice none 0 0], .agg #[.int .i64 2, .int .i64 k]])) ((((w2.setCell ⟨w.heap.size, 0, none⟩ (.slice none 0 0)).setCell ⟨w.heap.size, 1, none⟩ (.slice none 0 0)).setCell ⟨w.heap.size + 1, 0, none⟩ (.int .i64 2)).setCell ⟨w.heap.size + 1, 1, none⟩ (.int .i64 k))) := fun w2 no m =>
          Hfail.out k w2 ⟨rs, cs, by rw [HL.out]; exact Hr.out.2.2.1, .inr ⟨by rw [HL.out, Hn.out], fun q => no q.2⟩⟩ m
        have Hyes : Hid (∀ w2, (prgOf rs cs).Ok 8000 10 → More wr w2 → P (.returned (.tuple #[.agg #[.slice ra rl rc, .slice ca cl cc], .agg #[.int .i64 0, .int .i64 0]])) ((((w2.setCell ⟨w.heap.size, 0, none⟩ (.slice ra rl rc)).setCell ⟨w.heap.size, 1, none⟩ (.slice ca cl cc)).setCell ⟨w.heap.size + 1, 0, none⟩ (.int .i64 0)).setCell ⟨w.heap.size + 1, 1, none⟩ (.int .i64 0))) := fun w2 ok m => by
          refine HP.out _ _ ⟨((((Hwm.out.trans m).setCell (by show w.heap.size ≤ _; simp) _).setCell (by show w.heap.size ≤ _; simp) _).setCell (by show w.heap.size ≤ _; simp) _).setCell (by show w.heap.size ≤ _; simp) _, .inl ⟨rs, cs, lo, ⟨k, by rw [HL.out, Hn.out], by rw [HL.out]; exact Hr.out.2.2.1, by rw [HL.out, Hl.out, he], ok⟩, ?_, by rw [e1, e2]⟩⟩
          have hin2 := hin.more m
          exact ⟨hin2.hr, hin2.hc, regs_other (regs_other (regs_other (regs_other hin2.regs (fun h => by have := hrb h; omega) _ _) (fun h => by have := hrb h; omega) _ _) (fun h => by have := hrb h; omega) _ _) (fun h => by have := hrb h; omega) _ _, code_other (code_other (code_other (code_other hin2.code (fun h => by have := hcb h; omega) _ _) (fun h => by have := hcb h; omega) _ _) (fun h => by have := hcb h; omega) _ _) (fun h => by have := hcb h; omega) _ _⟩
        clear Hfail HP e1 e2 hin hrb hcb he
        go_wp2_with (fail)
        refine CH.mono ?_
        rintro e w2 ⟨r, rfl, hr, m2⟩
        have Hm2 : Hid (More wr w2) := m2
        clear m2 CH p0 p1
        have p0 : w2.cell? ⟨w1.heap.size, 0, none⟩ = some (.slice ra rl rc) := (Hr.out.2.2.2.prg.more Hm2.out).cell rfl
        have p1 : w2.cell? ⟨w1.heap.size, 1, none⟩ = some (.slice ca cl cc) := (Hr.out.2.2.2.prg.more Hm2.out).cell rfl
        have a0 : w2.cell? ⟨w.heap.size, 0, none⟩ = some (.slice none 0 0) := (E0.out.more Hm2.out).cell rfl
        have a1 : w2.cell? ⟨w.heap.size, 1, none⟩ = some (.slice none 0 0) := (E0.out.more Hm2.out).cell rfl
        have a2 : w2.cell? ⟨w.heap.size + 1, 0, none⟩ = some (.int .i64 0) := (E1.out.more Hm2.out).cell rfl
        have a3 : w2.cell? ⟨w.heap.size + 1, 1, none⟩ = some (.int .i64 0) := (E1.out.more Hm2.out).cell rfl
        have z0 := (E0.out.more Hm2.out).frozen 0
        have z1 := (E0.out.more Hm2.out).frozen 1
        have z2 := (E1.out.more Hm2.out).frozen 0
        have z3 := (E1.out.more Hm2.out).frozen 1
        cases r with
        | false =>
          have HE := hid_of0 (Hno.out w2 (fun h => by simpa using hr.2 h) (Hwm.out.trans Hm2.out))
          clear hr Hno Hyes
          go_wp2
          refine bodyPost_ret (v := .tuple #[.agg #[.slice none 0 0, .slice none 0 0], .agg #[.int .i64 2, .int .i64 k]]) (by simp [results, Tryd.results11, go_sem, *]) rfl ?_
          exact HE.out
        | true =>
          have HE := hid_of0 (Hyes.out w2 (hr.1 rfl) Hm2.out)
          clear hr Hno Hyes
          go_wp2
          refine bodyPost_ret (v := .tuple #[.agg #[.slice ra rl rc, .slice ca cl cc], .agg #[.int .i64 0, .int .i64 0]]) (by simp [results, Tryd.results11, go_sem, *]) rfl ?_
          exact HE.out
      · have hbq : ¬ (txt l).toList = [] := by rw [ByteArray.toList_mk]; exact he
        obtain ⟨tl, Htl⟩ : ∃ x, Hid (txt l = x) := ⟨_, rfl⟩
        rw [Htl.out] at hbq lcell
        have HE := hid_of0 (Hfail.out k wr ⟨rs, cs, by rw [HL.out]; exact Hr.out.2.2.1, .inr ⟨by rw [HL.out, Hn.out], fun q => he (by have q1 := q.1; rw [HL.out, Hl.out] at q1; exact Option.some.inj q1)⟩⟩ Hwm.out)
        clear Hfail HP he
        have a0 : wr.cell? ⟨w.heap.size, 0, none⟩ = some (.slice none 0 0) := E0.out.cell rfl
        have a1 : wr.cell? ⟨w.heap.size, 1, none⟩ = some (.slice none 0 0) := E0.out.cell rfl
        have a2 : wr.cell? ⟨w.heap.size + 1, 0, none⟩ = some (.int .i64 0) := E1.out.cell rfl
        have a3 : wr.cell? ⟨w.heap.size + 1, 1, none⟩ = some (.int .i64 0) := E1.out.cell rfl
        have z0 := E0.out.frozen 0
        have z1 := E0.out.frozen 1
        have z2 := E1.out.frozen 0
        have z3 := E1.out.frozen 1
        go_wp2
        refine bodyPost_ret (v := .tuple #[.agg #[.slice none 0 0, .slice none 0 0], .agg #[.int .i64 2, .int .i64 k]]) (by simp [results, Tryd.results11, go_sem, *]) rfl ?_
        exact HE.out
    | succ g =>
      have hk : k < n := by omega
      have hki : (k : Int) < n := by omega
      have hk63 : wrap64 ((k : Int) + 1) = (k : Int) + 1 := by unfold wrap64; omega
      have hki1 : (k : Int) < (n : Int) + 1 := by omega
      have hk1 : k < n + 1 := by omega
      obtain ⟨ws, Hws⟩ : ∃ x, Hid (splitL 32 l = x) := ⟨_, rfl⟩
      obtain ⟨m, Hm⟩ : ∃ m, Hid (ws.length = m + 1) := ⟨ws.length - 1, by have := (splitL_length 32 l).1; rw [Hws.out] at this; show _ = _; omega⟩
      have hm : m ≤ 1099511627776 := by have := (splitL_length 32 l).2; have := Hll.out; rw [Hws.out, Hm.out] at *; omega
      have Hxl : Hid (∀ x ∈ ws, x.length < 4611686018427387904) := fun x hx => by
        have h1 := splitL_short 32 l x (by rw [Hws.out]; exact hx)
        have h2 := Hll.out
        omega
      have CW : Hid (∀ w', Calls Tryd.prog 23 #[.string (txt l), .int .u8 32] w' fun e w2 => ∃ g cap, e = .returned (.slice (some ⟨g, 0, none⟩) (m + 1) cap) ∧ w'.heap.size ≤ g ∧ (∀ i x, ws[i]? = some x → w2.cell? ⟨g, i, none⟩ = some (.string (txt x))) ∧ More w' w2) := fun w' => by
        have := split_calls l 32 w' Hll.out
        rw [Hws.out, Hm.out] at this
        exact this
      have Hfk : Hid (∀ w2, (∀ rs' cs', ¬ LineTo l rs cs rs' cs') → More w w2 → P (.returned (.tuple #[.agg #[.slice none 0 0, .slice none 0 0], .agg #[.int .i64 2, .int .i64 k]])) ((((w2.setCell ⟨w.heap.size, 0, none⟩ (.slice none 0 0)).setCell ⟨w.heap.size, 1, none⟩ (.slice none 0 0)).setCell ⟨w.heap.size + 1, 0, none⟩ (.int .i64 2)).setCell ⟨w.heap.size + 1, 1, none⟩ (.int .i64 k))) := fun w2 no m =>
        Hfail.out k w2 ⟨rs, cs, by rw [HL.out]; exact Hr.out.2.2.1, .inl ⟨l, by rw [HL.out, Hn.out]; omega, by rw [HL.out]; exact Hl.out, no⟩⟩ m
      have Hfk2 : Hid (∀ (w2 : World) (c : Array Value) (T : TypeId), (∀ rs' cs', ¬ LineTo l rs cs rs' cs') → More w w2 → P (.returned (.tuple #[.agg #[.slice none 0 0, .slice none 0 0], .agg #[.int .i64 2, .int .i64 k]])) (((((w2.setCell ⟨w.heap.size, 0, none⟩ (.slice none 0 0)).setCell ⟨w.heap.size, 1, none⟩ (.slice none 0 0)).setCell ⟨w.heap.size + 1, 0, none⟩ (.int .i64 2)).setCell ⟨w.heap.size + 1, 1, none⟩ (.int .i64 k)).alloc (.cells c T))) := fun w2 c T no m =>
        HP.out _ _ ⟨((((m.setCell (by show w.heap.size ≤ _; simp) _).setCell (by show w.heap.size ≤ _; simp) _).setCell (by show w.heap.size ≤ _; simp) _).setCell (by show w.heap.size ≤ _; simp) _).alloc _ _, .inr ⟨k, ⟨rs, cs, by rw [HL.out]; exact Hr.out.2.2.1, .inl ⟨l, by rw [HL.out, Hn.out]; omega, by rw [HL.out]; exact Hl.out, no⟩⟩, rfl⟩⟩
      have E0 : Hid (Blk wr w.heap.size #[.slice none 0 0, .slice none 0 0] 25) := (HbR.out.more Hm1.out).more Hr.out.2.2.2.more
      have E1 : Hid (Blk wr (w.heap.size + 1) #[.int .i64 0, .int .i64 0] 32) := (HbF.out.more Hm1.out).more Hr.out.2.2.2.more
      clear Hfail HP
      obtain ⟨tl, Htl⟩ : ∃ x, Hid (txt l = x) := ⟨_, rfl⟩
      rw [Htl.out] at CW lcell
      go_wp2_with (fail)
      refine (CW.out wr).mono ?_
      rintro e w2 ⟨wg, wc, rfl, hwg, hcw, m2⟩
      have HX : Hid (P12 w1 rs cs (.slice ra rl rc) (.slice ca cl cc) w2 ∧ More wr w2) := ⟨Hr.out.2.2.2.up m2, m2⟩
      have HCW : Hid (∀ i x, ws[i]? = some x → w2.cell? ⟨wg, i, none⟩ = some (.string (txt x))) := hcw
      have Hwg : Hid (wr.heap.size ≤ wg) := hwg
      clear m2 hcw hwg CW lcell
      have Hw2 : Hid (More w w2) := Hwm.out.trans HX.out.2
      have p0 : w2.cell? ⟨w1.heap.size, 0, none⟩ = some (.slice ra rl rc) := HX.out.1.prg.cell rfl
      have p1 : w2.cell? ⟨w1.heap.size, 1, none⟩ = some (.slice ca cl cc) := HX.out.1.prg.cell rfl
      have a0 : w2.cell? ⟨w.heap.size, 0, none⟩ = some (.slice none 0 0) := (E0.out.more HX.out.2).cell rfl
      have a1 : w2.cell? ⟨w.heap.size, 1, none⟩ = some (.slice none 0 0) := (E0.out.more HX.out.2).cell rfl
      have a2 : w2.cell? ⟨w.heap.size + 1, 0, none⟩ = some (.int .i64 0) := (E1.out.more HX.out.2).cell rfl
      have a3 : w2.cell? ⟨w.heap.size + 1, 1, none⟩ = some (.int .i64 0) := (E1.out.more HX.out.2).cell rfl
      have z0 := (E0.out.more HX.out.2).frozen 0
      have z1 := (E0.out.more HX.out.2).frozen 1
      have z2 := (E1.out.more HX.out.2).frozen 0
      have z3 := (E1.out.more HX.out.2).frozen 1
      obtain ⟨x0, Hx0⟩ : ∃ x, Hid (ws[0]? = some x) := ⟨ws[0]'(by rw [Hm.out]; omega), by show _ = _; exact List.getElem?_eq_getElem _⟩
      have c0 : w2.cell? ⟨wg, 0, none⟩ = some (.string (txt x0)) := HCW.out 0 x0 Hx0.out
      have hgw2 : wg < w2.heap.size := cell_block c0
      by_cases h0 : x0 = rgnL
      · have hq0 : (txt x0).toList = [114, 101, 103, 105, 111, 110] := by rw [ByteArray.toList_mk]; exact h0
        obtain ⟨t0, Ht0⟩ : ∃ x, Hid (txt x0 = x) := ⟨_, rfl⟩
        rw [Ht0.out] at c0 hq0
        have Hnl : Hid (∀ j, ¬ LineIs ws j) := fun j hj => line_not_region hj (by rw [Hx0.out, h0])
        by_cases h3 : m = 2
        · subst h3
          obtain ⟨x1, x2, Hw3⟩ : ∃ x1 x2, Hid (ws = [x0, x1, x2]) := by
            have hl := Hm.out
            have h00 := Hx0.out
            match ws, hl, h00 with
            | [a, b, c], _, e =>
              obtain rfl : a = x0 := Option.some.inj e
              exact ⟨b, c, rfl⟩
          have c1 : w2.cell? ⟨wg, 1, none⟩ = some (.string (txt x1)) := HCW.out 1 x1 (by rw [Hw3.out]; rfl)
          have c2 : w2.cell? ⟨wg, 2, none⟩ = some (.string (txt x2)) := HCW.out 2 x2 (by rw [Hw3.out]; rfl)
          have Hnr : Hid (∀ rs' cs' , LineTo l rs cs rs' cs' → ∃ lg sc, NumIs 18 x1 lg ∧ x2 = secW sc ∧ cs = []) := fun rs' cs' q => by
            rcases q with ⟨lg', sc', q, e, _⟩ | ⟨j, q, _⟩
            · obtain ⟨t, q, qn⟩ := q
              rw [Hws.out, Hw3.out] at q
              have q1 := (List.cons.inj q).2
              obtain ⟨q2, q3⟩ := List.cons.inj q1
              exact ⟨lg', sc', by rw [q2]; exact qn, (List.cons.inj q3).1, e⟩
            · rw [Hws.out] at q
              exact absurd q (Hnl.out j)
          have hx1 : x1.length < 4611686018427387904 := Hxl.out x1 (by rw [Hw3.out]; simp)
          have CN := hid_of0 (fun w' => number_calls12 x1 18 w' hx1)
          obtain ⟨t1, Ht1⟩ : ∃ x, Hid (txt x1 = x) := ⟨_, rfl⟩
          rw [Ht1.out] at c1 CN
          have hq2' : (txt x2).toList = x2 := ByteArray.toList_mk _
          obtain ⟨t2, Ht2⟩ : ∃ x, Hid (txt x2 = x) := ⟨_, rfl⟩
          rw [Ht2.out] at c2 hq2'
          by_cases hc0 : cl = 0
          · subst hc0
            have Hcs : Hid (cs = []) := List.length_eq_zero_iff.1 Hr.out.2.1
            by_cases hsc : ∃ sc, x2 = secW sc
            · obtain ⟨sc, hsc⟩ := hsc
              cases sc with
              | false =>
                have hq2 : t2.toList = [112, 117, 98, 108, 105, 99] := by rw [hq2', hsc]; rfl
                have Hsc : Hid (x2 = secW false) := hsc
                clear hq2' hsc
                go_wp2_with (fail)
                refine (CN.out w2).mono ?_
                rintro e w4 ⟨v, ok, rfl, hv, hw4⟩
                have hw4' := hw4.symm
                subst hw4'
                clear CN
                cases ok with
                | false =>
                  have hno : ∀ v', ¬ NumIs 18 x1 v' := by
                    rcases hv with ⟨h, _⟩ | ⟨_, h⟩
                    · cases h
                    · exact h
                  have HE := hid_of0 (Hfk.out w2 (fun rs' cs' q => by
                    obtain ⟨lg', _, e, _, _⟩ := Hnr.out _ _ q
                    exact hno lg' e) Hw2.out)
                  clear Hfk Hfk2 h0 hv hno
                  go_wp2
                  refine bodyPost_ret (v := .tuple #[.agg #[.slice none 0 0, .slice none 0 0], .agg #[.int .i64 2, .int .i64 k]]) (by simp [results, Tryd.results11, go_sem, *]) rfl ?_
                  exact HE.out
                | true =>
                  have Hnum : Hid (NumIs 18 x1 v) := by
                    rcases hv with ⟨_, h⟩ | ⟨h, _⟩
                    · exact h
                    · cases h
                  have Hx0r : Hid (x0 = rgnL) := h0
                  clear Hfk Hfk2 h0 hv a0 a1 a2 a3 z0 z1 z2 z3
                  obtain ⟨S, HS⟩ : ∃ S : World → Prop, Hid (∀ w', S w' ↔ (w'.cell? ⟨w1.heap.size, 0, none⟩ = some (.slice ra rl rc) ∧ w'.cell? ⟨wg, 2, none⟩ = some (.string t2))) := ⟨_, fun _ => Iff.rfl⟩
                  have j1 : ∀ i : { w' // S w' }, i.val.cell? ⟨w1.heap.size, 0, none⟩ = some (.slice ra rl rc) := fun i => ((HS.out _).1 i.property).1
                  have j2 : ∀ i : { w' // S w' }, i.val.cell? ⟨wg, 2, none⟩ = some (.string t2) := fun i => ((HS.out _).1 i.property).2
                  have hS : S w2.drew := (HS.out _).2 ⟨p0, c2⟩
                  have hne : Nonempty { w' // S w' } := ⟨⟨_, hS⟩⟩
                  have Hpc : Hid (w2.cell? ⟨w1.heap.size, 0, none⟩ = some (.slice ra rl rc) ∧ w2.cell? ⟨wg, 2, none⟩ = some (.string t2)) := ⟨p0, c2⟩
                  obtain ⟨W2, HW2⟩ : ∃ w_ : World, Hid (w_ = (w2.alloc (.cells #[.int .i64 v, .bool false] 42)).drew) := ⟨_, rfl⟩
                  have Hm4 : Hid (More w2 W2) := HW2.out ▸ ((More.refl _).alloc _ _).drew
                  have HQ : Hid (P12 w1 rs cs (.slice ra rl rc) (.slice ca 0 cc) W2) := HX.out.1.up Hm4.out
                  have Hown : Hid (W2.ownsRow (w1.heap.size + 1) 42 2 (.slice ra rl rc) rl (celR rs)) := by
                    have := HQ.out.ownR
                    rw [Hr.out.1] at this
                    exact this
                  have Hnews : Hid (∀ i u, (celR [(v, false)])[i]? = some u → W2.cell? ((⟨w2.heap.size, 0, none⟩ : Addr).add i) = some u) := by
                    have hb : Blk W2 w2.heap.size #[.int .i64 v, .bool false] 42 := by
                      rw [HW2.out]
                      exact (Blk.last w2 #[.int .i64 v, .bool false] 42).drew
                    exact fun i u hu => World.news_of_block hb i u hu
                  have Hsz : Hid (w1.heap.size + 1 ≤ W2.heap.size) := by have := HQ.out.prg.lt; show _ ≤ _; omega
                  have Hst : Hid (∀ (w5 : World) (g3 c3 : Nat), W2.grownBy w5 (Value.slice ra rl rc).ownBlock → w5.ownsRow (w1.heap.size + 1) 42 2 (.slice (some ⟨g3, 0, none⟩) (rl + 1) c3) (rl + 1) (celR rs ++ celR [(v, false)]) → P12 w1 (rs ++ [(v, false)]) cs (.slice (some ⟨g3, 0, none⟩) (rl + 1) c3) (.slice ca 0 cc) (w5.setCell ⟨w1.heap.size, 0, none⟩ (.slice (some ⟨g3, 0, none⟩) (rl + 1) c3))) := fun w5 g3 c3 gr own => by
                    have := HQ.out.addR (j := (v, false)) gr (g := g3) (c := c3)
                    rw [Hr.out.1] at this
                    exact this own
                  have Hp2 : Hid (Blk W2 w1.heap.size #[.slice ra rl rc, .slice ca 0 cc] 25 ∧ ∀ b, (Value.slice ra rl rc).ownBlock = some b → w1.heap.size + 1 ≤ b) := ⟨HQ.out.prg, fun b hb => (Hown.out.lt b hb).1⟩
                  go_wp2_with (fail)
                  refine wp_region_last (S := S) [(0, true), (1, true), (2, true), (3, true), (4, true), (5, true), (6, true), (7, true), (8, false), (9, false), (10, true), (11, false)] (by kernel_rfl) (by kernel_rfl) (by kernel_rfl) hS ?_
                  iterate 8 (refine wpOrdZ_take rfl (by kernel_rfl) (fun K hK => ?_); go_simp; refine hK _ _ ?_; clear hK K)
                  clear j1 j2
                  refine wpOrdZ_busy rfl (by kernel_rfl) (fun K hK => ?_)
                  go_simp
                  refine hK _ _ ((HS.out _).2 ⟨((More.refl w2).alloc _ _).drew.cell Hpc.out.1, ((More.refl w2).alloc _ _).drew.cell Hpc.out.2⟩) ?_
                  clear hK K
                  rw [← HW2.out]
                  refine wpOrdZ_busy rfl (by kernel_rfl) (fun K hK => ?_)
                  refine wp_append_lies _ (.tmp 70) (.tmp 77) 22 rfl (w1.heap.size + 1) 42 j0 (.agg #[.int .i64 0, .bool false]) 2 16 Tryd.underlying22 Hj.out.1 Hj.out.2.1 Hj.out.2.2.1 Hj.out.2.2.2 rfl (by decide) (.slice ra rl rc) rl (celR rs) rfl Hown.out ⟨w2.heap.size, 0, none⟩ 1 1 (celR [(v, false)]) rfl (by rw [celR_length]; rfl) Hnews.out (celR_one _) (by decide) (by unfold maxLen; omega) (by omega) Hsz.out _ rfl ?_
                  intro g3 cap3 w5 own3 gr3 hat3 hlt3
                  have B3 : Blk w5 w1.heap.size #[.slice ra rl rc, .slice ca 0 cc] 25 := (gr3.block _ Hp2.out.1.lt (fun e => by have := Hp2.out.2 _ e.symm; omega)).trans Hp2.out.1
                  have y1 := B3.cell (j := 0) rfl
                  have y2 := B3.frozen 0
                  have Hr3 := hid_of0 (Hst.out _ _ _ gr3 own3)
                  refine hK _ _ ((HS.out _).2 ⟨y1, ?_⟩) ?_
                  · exact gr3.cell (Hm4.out.cell Hpc.out.2) (fun e => by have h1 := (Hr.out.2.2.2.ownR.lt wg e.symm).2; have h2 := Hwg.out; omega)
                  clear hK K own3 gr3 hat3 hlt3
                  refine wpOrdZ_take rfl (by kernel_rfl) (fun K hK => ?_); go_simp; refine hK _ _ ?_; clear hK K
                  refine wpOrdZ_last rfl (by kernel_rfl) (by kernel_rfl) (fun K hK => ?_)
                  go_simp
                  refine hK _ _ ?_
                  clear hK K hne
                  refine NoPanic.normal ?_
                  go_wp2
                  go_roundg g
                  case measure => omega
                  case rel => exact ⟨k + 1, rl + 1, 0, rs ++ [(v, false)], cs, _, ca, cap3, cc, by omega, by first | rfl | simp, by omega, by rw [List.length_append, Hr.out.1]; rfl, Hr.out.2.1, ⟨rs, cs, l, Hr.out.2.2.1, Hl.out, .inl ⟨v, false, by rw [Hws.out, Hw3.out, Hx0r.out]; exact ⟨x1, by rw [Hsc.out], Hnum.out⟩, Hcs.out, rfl, Hcs.out⟩⟩, Hr3.out⟩
              | true =>
                have hq2 : t2.toList = [115, 101, 99, 114, 101, 116] := by rw [hq2', hsc]; rfl
                have Hsc : Hid (x2 = secW true) := hsc
                clear hq2' hsc
                go_wp2_with (fail)
                refine (CN.out w2).mono ?_
                rintro e w4 ⟨v, ok, rfl, hv, hw4⟩
                have hw4' := hw4.symm
                subst hw4'
                clear CN
                cases ok with
                | false =>
                  have hno : ∀ v', ¬ NumIs 18 x1 v' := by
                    rcases hv with ⟨h, _⟩ | ⟨_, h⟩
                    · cases h
                    · exact h
                  have HE := hid_of0 (Hfk.out w2 (fun rs' cs' q => by
                    obtain ⟨lg', _, e, _, _⟩ := Hnr.out _ _ q
                    exact hno lg' e) Hw2.out)
                  clear Hfk Hfk2 h0 hv hno
                  go_wp2
                  refine bodyPost_ret (v := .tuple #[.agg #[.slice none 0 0, .slice none 0 0], .agg #[.int .i64 2, .int .i64 k]]) (by simp [results, Tryd.results11, go_sem, *]) rfl ?_
                  exact HE.out
                | true =>
                  have Hnum : Hid (NumIs 18 x1 v) := by
                    rcases hv with ⟨_, h⟩ | ⟨h, _⟩
                    · exact h
                    · cases h
                  have Hx0r : Hid (x0 = rgnL) := h0
                  clear Hfk Hfk2 h0 hv a0 a1 a2 a3 z0 z1 z2 z3
                  obtain ⟨S, HS⟩ : ∃ S : World → Prop, Hid (∀ w', S w' ↔ (w'.cell? ⟨w1.heap.size, 0, none⟩ = some (.slice ra rl rc) ∧ w'.cell? ⟨wg, 2, none⟩ = some (.string t2))) := ⟨_, fun _ => Iff.rfl⟩
                  have j1 : ∀ i : { w' // S w' }, i.val.cell? ⟨w1.heap.size, 0, none⟩ = some (.slice ra rl rc) := fun i => ((HS.out _).1 i.property).1
                  have j2 : ∀ i : { w' // S w' }, i.val.cell? ⟨wg, 2, none⟩ = some (.string t2) := fun i => ((HS.out _).1 i.property).2
                  have hS : S w2.drew := (HS.out _).2 ⟨p0, c2⟩
                  have hne : Nonempty { w' // S w' } := ⟨⟨_, hS⟩⟩
                  have Hpc : Hid (w2.cell? ⟨w1.heap.size, 0, none⟩ = some (.slice ra rl rc) ∧ w2.cell? ⟨wg, 2, none⟩ = some (.string t2)) := ⟨p0, c2⟩
                  obtain ⟨W2, HW2⟩ : ∃ w_ : World, Hid (w_ = (w2.alloc (.cells #[.int .i64 v, .bool true] 42)).drew) := ⟨_, rfl⟩
                  have Hm4 : Hid (More w2 W2) := HW2.out ▸ ((More.refl _).alloc _ _).drew
                  have HQ : Hid (P12 w1 rs cs (.slice ra rl rc) (.slice ca 0 cc) W2) := HX.out.1.up Hm4.out
                  have Hown : Hid (W2.ownsRow (w1.heap.size + 1) 42 2 (.slice ra rl rc) rl (celR rs)) := by
                    have := HQ.out.ownR
                    rw [Hr.out.1] at this
                    exact this
                  have Hnews : Hid (∀ i u, (celR [(v, true)])[i]? = some u → W2.cell? ((⟨w2.heap.size, 0, none⟩ : Addr).add i) = some u) := by
                    have hb : Blk W2 w2.heap.size #[.int .i64 v, .bool true] 42 := by
                      rw [HW2.out]
                      exact (Blk.last w2 #[.int .i64 v, .bool true] 42).drew
                    exact fun i u hu => World.news_of_block hb i u hu
                  have Hsz : Hid (w1.heap.size + 1 ≤ W2.heap.size) := by have := HQ.out.prg.lt; show _ ≤ _; omega
                  have Hst : Hid (∀ (w5 : World) (g3 c3 : Nat), W2.grownBy w5 (Value.slice ra rl rc).ownBlock → w5.ownsRow (w1.heap.size + 1) 42 2 (.slice (some ⟨g3, 0, none⟩) (rl + 1) c3) (rl + 1) (celR rs ++ celR [(v, true)]) → P12 w1 (rs ++ [(v, true)]) cs (.slice (some ⟨g3, 0, none⟩) (rl + 1) c3) (.slice ca 0 cc) (w5.setCell ⟨w1.heap.size, 0, none⟩ (.slice (some ⟨g3, 0, none⟩) (rl + 1) c3))) := fun w5 g3 c3 gr own => by
                    have := HQ.out.addR (j := (v, true)) gr (g := g3) (c := c3)
                    rw [Hr.out.1] at this
                    exact this own
                  have Hp2 : Hid (Blk W2 w1.heap.size #[.slice ra rl rc, .slice ca 0 cc] 25 ∧ ∀ b, (Value.slice ra rl rc).ownBlock = some b → w1.heap.size + 1 ≤ b) := ⟨HQ.out.prg, fun b hb => (Hown.out.lt b hb).1⟩
                  go_wp2_with (fail)
                  refine wp_region_last (S := S) [(0, true), (1, true), (2, true), (3, true), (4, true), (5, true), (6, true), (7, true), (8, false), (9, false), (10, true), (11, false)] (by kernel_rfl) (by kernel_rfl) (by kernel_rfl) hS ?_
                  iterate 8 (refine wpOrdZ_take rfl (by kernel_rfl) (fun K hK => ?_); go_simp; refine hK _ _ ?_; clear hK K)
                  clear j1 j2
                  refine wpOrdZ_busy rfl (by kernel_rfl) (fun K hK => ?_)
                  go_simp
                  refine hK _ _ ((HS.out _).2 ⟨((More.refl w2).alloc _ _).drew.cell Hpc.out.1, ((More.refl w2).alloc _ _).drew.cell Hpc.out.2⟩) ?_
                  clear hK K
                  rw [← HW2.out]
                  refine wpOrdZ_busy rfl (by kernel_rfl) (fun K hK => ?_)
                  refine wp_append_lies _ (.tmp 70) (.tmp 77) 22 rfl (w1.heap.size + 1) 42 j0 (.agg #[.int .i64 0, .bool false]) 2 16 Tryd.underlying22 Hj.out.1 Hj.out.2.1 Hj.out.2.2.1 Hj.out.2.2.2 rfl (by decide) (.slice ra rl rc) rl (celR rs) rfl Hown.out ⟨w2.heap.size, 0, none⟩ 1 1 (celR [(v, true)]) rfl (by rw [celR_length]; rfl) Hnews.out (celR_one _) (by decide) (by unfold maxLen; omega) (by omega) Hsz.out _ rfl ?_
                  intro g3 cap3 w5 own3 gr3 hat3 hlt3
                  have B3 : Blk w5 w1.heap.size #[.slice ra rl rc, .slice ca 0 cc] 25 := (gr3.block _ Hp2.out.1.lt (fun e => by have := Hp2.out.2 _ e.symm; omega)).trans Hp2.out.1
                  have y1 := B3.cell (j := 0) rfl
                  have y2 := B3.frozen 0
                  have Hr3 := hid_of0 (Hst.out _ _ _ gr3 own3)
                  refine hK _ _ ((HS.out _).2 ⟨y1, ?_⟩) ?_
                  · exact gr3.cell (Hm4.out.cell Hpc.out.2) (fun e => by have h1 := (Hr.out.2.2.2.ownR.lt wg e.symm).2; have h2 := Hwg.out; omega)
                  clear hK K own3 gr3 hat3 hlt3
                  refine wpOrdZ_take rfl (by kernel_rfl) (fun K hK => ?_); go_simp; refine hK _ _ ?_; clear hK K
                  refine wpOrdZ_last rfl (by kernel_rfl) (by kernel_rfl) (fun K hK => ?_)
                  go_simp
                  refine hK _ _ ?_
                  clear hK K hne
                  refine NoPanic.normal ?_
                  go_wp2
                  go_roundg g
                  case measure => omega
                  case rel => exact ⟨k + 1, rl + 1, 0, rs ++ [(v, true)], cs, _, ca, cap3, cc, by omega, by first | rfl | simp, by omega, by rw [List.length_append, Hr.out.1]; rfl, Hr.out.2.1, ⟨rs, cs, l, Hr.out.2.2.1, Hl.out, .inl ⟨v, true, by rw [Hws.out, Hw3.out, Hx0r.out]; exact ⟨x1, by rw [Hsc.out], Hnum.out⟩, Hcs.out, rfl, Hcs.out⟩⟩, Hr3.out⟩
            · have n1 : ¬ x2 = [112, 117, 98, 108, 105, 99] := fun e => hsc ⟨false, e⟩
              have n2 : ¬ x2 = [115, 101, 99, 114, 101, 116] := fun e => hsc ⟨true, e⟩
              have n1' : ¬ t2.toList = [112, 117, 98, 108, 105, 99] := by rw [hq2']; exact n1
              have n2' : ¬ t2.toList = [115, 101, 99, 114, 101, 116] := by rw [hq2']; exact n2
              have n1b : (t2.toList == [112, 117, 98, 108, 105, 99]) = false := by simpa using n1'
              have n2b : (t2.toList == [115, 101, 99, 114, 101, 116]) = false := by simpa using n2'
              have HE := hid_of0 (Hfk.out w2 (fun rs' cs' q => by
                obtain ⟨_, sc, _, e, _⟩ := Hnr.out _ _ q
                exact hsc ⟨sc, e⟩) Hw2.out)
              clear Hfk Hfk2 h0 hq2' CN n1 n2 hsc
              go_wp2
              refine bodyPost_ret (v := .tuple #[.agg #[.slice none 0 0, .slice none 0 0], .agg #[.int .i64 2, .int .i64 k]]) (by simp [results, Tryd.results11, go_sem, *]) rfl ?_
              exact HE.out
          · have hcp : (0 : Int) < cl := by omega
            have hcd : decide ((0 : Int) < cl) = true := decide_eq_true hcp
            have HE := hid_of0 (Hfk.out w2 (fun rs' cs' q => by
              obtain ⟨_, _, _, _, e⟩ := Hnr.out _ _ q
              have := Hr.out.2.1
              rw [e] at this
              exact hc0 this.symm) Hw2.out)
            clear Hfk Hfk2 h0 hq2' CN
            go_wp2
            refine bodyPost_ret (v := .tuple #[.agg #[.slice none 0 0, .slice none 0 0], .agg #[.int .i64 2, .int .i64 k]]) (by simp [results, Tryd.results11, go_sem, *]) rfl ?_
            exact HE.out
        · have h3b : ((m : Int) + 1 != 3) = true := by simp; omega
          have h3c : ¬ (m : Int) + 1 = 3 := by omega
          have HE := hid_of0 (Hfk.out w2 (fun rs' cs' q => by
            rcases q with ⟨lg', sc', q, _⟩ | ⟨j, q, _⟩
            · obtain ⟨t, q, _⟩ := q
              rw [Hws.out] at q
              have := Hm.out
              rw [q] at this
              simp at this
              omega
            · rw [Hws.out] at q
              exact Hnl.out j q) Hw2.out)
          clear Hfk Hfk2 h0
          go_wp2
          refine bodyPost_ret (v := .tuple #[.agg #[.slice none 0 0, .slice none 0 0], .agg #[.int .i64 2, .int .i64 k]]) (by simp [results, Tryd.results11, go_sem, *]) rfl ?_
          exact HE.out
      · have hq0 : ¬ (txt x0).toList = [114, 101, 103, 105, 111, 110] := by rw [ByteArray.toList_mk]; exact h0
        obtain ⟨t0, Ht0⟩ : ∃ x, Hid (txt x0 = x) := ⟨_, rfl⟩
        rw [Ht0.out] at c0 hq0
        have hq1 : (t0.toList == [114, 101, 103, 105, 111, 110]) = false := by simpa using hq0
        have CR := hid_of0 (read_calls12 ws wg (m + 1) wc w2 Hm.out (by omega) (by omega) (fun i x hx => ⟨HCW.out i x hx, Hxl.out x (List.mem_of_getElem? hx)⟩))
        go_wp2_with (fail)
        refine CR.out.mono ?_
        rintro e w3 ⟨j, ok, rfl, hj, m3⟩
        have HJ : Hid (ReadAns ws j ok) := hj
        have Hm3 : Hid (More w2 w3) := m3
        clear hj m3 CR c0 p0 p1 a0 a1 a2 a3 z0 z1 z2 z3
        have p0 : w3.cell? ⟨w1.heap.size, 0, none⟩ = some (.slice ra rl rc) := (HX.out.1.prg.more Hm3.out).cell rfl
        have p1 : w3.cell? ⟨w1.heap.size, 1, none⟩ = some (.slice ca cl cc) := (HX.out.1.prg.more Hm3.out).cell rfl
        have pz : w1.heap.size < w3.heap.size := (HX.out.1.prg.more Hm3.out).lt
        obtain ⟨o, ja, jb, jc, jn⟩ := j
        cases ok with
        | false =>
          have F0 := hid_of0 ((E0.out.more HX.out.2).more Hm3.out)
          have F1 := hid_of0 ((E1.out.more HX.out.2).more Hm3.out)
          have a0 : w3.cell? ⟨w.heap.size, 0, none⟩ = some (.slice none 0 0) := F0.out.cell rfl
          have a1 : w3.cell? ⟨w.heap.size, 1, none⟩ = some (.slice none 0 0) := F0.out.cell rfl
          have a2 : w3.cell? ⟨w.heap.size + 1, 0, none⟩ = some (.int .i64 0) := F1.out.cell rfl
          have a3 : w3.cell? ⟨w.heap.size + 1, 1, none⟩ = some (.int .i64 0) := F1.out.cell rfl
          have z0 := F0.out.frozen 0
          have z1 := F0.out.frozen 1
          have z2 := F1.out.frozen 0
          have z3 := F1.out.frozen 1
          have y0 := F0.out.lt
          have y1 := F1.out.lt
          have HE := hid_of0 (Hfk2.out w3 #[.int .i64 o, .int .i64 ja, .int .i64 jb, .int .i64 jc, .int .i64 jn] 49 (fun rs' cs' q => by
            rcases q with ⟨lg', sc', q, _⟩ | ⟨j, q, _⟩
            · obtain ⟨t, q, _⟩ := q
              rw [Hws.out] at q
              have h1 := Hx0.out
              rw [q] at h1
              exact h0 (Option.some.inj h1).symm
            · rw [Hws.out] at q
              rcases HJ.out with ⟨h, _⟩ | ⟨_, h⟩
              · cases h
              · exact h j q) (Hw2.out.trans Hm3.out))
          clear Hfk Hfk2 h0
          go_wp2
          refine bodyPost_ret (v := .tuple #[.agg #[.slice none 0 0, .slice none 0 0], .agg #[.int .i64 2, .int .i64 k]]) (by simp [results, Tryd.results11, go_sem, *]) rfl ?_
          exact HE.out

        | true =>
          have Hli : Hid (LineIs ws ⟨o, ja, jb, jc, jn⟩) := by
            rcases HJ.out with ⟨_, h, _⟩ | ⟨h, _⟩
            · exact h
            · cases h
          obtain ⟨W2, HW2⟩ : ∃ w_ : World, Hid (w_ = (w3.alloc (.cells #[.int .i64 o, .int .i64 ja, .int .i64 jb, .int .i64 jc, .int .i64 jn] 49)).alloc (.cells #[.int .i64 o, .int .i64 ja, .int .i64 jb, .int .i64 jc, .int .i64 jn] 49)) := ⟨_, rfl⟩
          have Hm4 : Hid (More w3 W2) := HW2.out ▸ ((More.refl _).alloc _ _).alloc _ _
          have HQ : Hid (P12 w1 rs cs (.slice ra rl rc) (.slice ca cl cc) W2) := (HX.out.1.up Hm3.out).up Hm4.out
          have Hown : Hid (W2.ownsRow (w1.heap.size + 1) 49 5 (.slice ca cl cc) cl (celI cs)) := by
            have := HQ.out.ownC
            rw [Hr.out.2.1] at this
            exact this
          have Hnews : Hid (∀ i v, (celI [⟨o, ja, jb, jc, jn⟩])[i]? = some v → W2.cell? ((⟨w3.heap.size + 1, 0, none⟩ : Addr).add i) = some v) := by
            have hb : Blk W2 (w3.heap.size + 1) #[.int .i64 o, .int .i64 ja, .int .i64 jb, .int .i64 jc, .int .i64 jn] 49 := by
              rw [HW2.out]
              simpa using Blk.last (w3.alloc (.cells #[.int .i64 o, .int .i64 ja, .int .i64 jb, .int .i64 jc, .int .i64 jn] 49)) #[.int .i64 o, .int .i64 ja, .int .i64 jb, .int .i64 jc, .int .i64 jn] 49
            exact fun i v hv => World.news_of_block hb i v hv
          have Hsz : Hid (w1.heap.size + 1 ≤ W2.heap.size) := by have := HQ.out.prg.lt; show _ ≤ _; omega
          have Hst : Hid (∀ (w5 : World) (g3 c3 : Nat), W2.grownBy w5 (Value.slice ca cl cc).ownBlock → w5.ownsRow (w1.heap.size + 1) 49 5 (.slice (some ⟨g3, 0, none⟩) (cl + 1) c3) (cl + 1) (celI cs ++ celI [⟨o, ja, jb, jc, jn⟩]) → P12 w1 rs (cs ++ [⟨o, ja, jb, jc, jn⟩]) (.slice ra rl rc) (.slice (some ⟨g3, 0, none⟩) (cl + 1) c3) (w5.setCell ⟨w1.heap.size, 1, none⟩ (.slice (some ⟨g3, 0, none⟩) (cl + 1) c3))) := fun w5 g3 c3 gr own => by
            have := HQ.out.addC (j := ⟨o, ja, jb, jc, jn⟩) gr (g := g3) (c := c3)
            rw [Hr.out.2.1] at this
            exact this own
          have Hp2 : Hid (Blk W2 w1.heap.size #[.slice ra rl rc, .slice ca cl cc] 25 ∧ ∀ b, (Value.slice ca cl cc).ownBlock = some b → w1.heap.size + 1 ≤ b) := ⟨HQ.out.prg, fun b hb => (Hown.out.lt b hb).1⟩
          clear Hfk h0 hq0 hq1
          go_wp2_with (at_builtin; rw [← HW2.out]; refine wpList_append_lies _ rfl (.tmp 91) (.tmp 93) 23 rfl (w1.heap.size + 1) 49 i0 (.agg #[.int .i64 0, .int .i64 0, .int .i64 0, .int .i64 0, .int .i64 0]) 5 40 Tryd.underlying23 Hi.out.1 Hi.out.2.1 Hi.out.2.2.1 Hi.out.2.2.2 rfl (by decide) (.slice ca cl cc) cl (celI cs) rfl Hown.out ⟨w3.heap.size + 1, 0, none⟩ 1 1 (celI [⟨o, ja, jb, jc, jn⟩]) rfl (by rw [celI_length]; rfl) Hnews.out (celI_one _) (by decide) (by unfold maxLen; omega) (by omega) Hsz.out _ rfl ?_; intro g3 cap3 w5 own3 gr3 hat3 hlt3; have B3 : Blk w5 w1.heap.size #[.slice ra rl rc, .slice ca cl cc] 25 := (gr3.block _ Hp2.out.1.lt (fun e => by have := Hp2.out.2 _ e.symm; omega)).trans Hp2.out.1; have x1 := B3.cell (j := 1) rfl; have x2 := B3.frozen 1)
          have Hr3 := hid_of0 (Hst.out _ _ _ gr3 own3)
          go_roundg g
          case measure => omega
          case rel => exact ⟨k + 1, rl, cl + 1, rs, cs ++ [⟨o, ja, jb, jc, jn⟩], ra, _, rc, cap3, by omega, by first | rfl | simp, by omega, Hr.out.1, by rw [List.length_append, Hr.out.2.1]; rfl, ⟨rs, cs, l, Hr.out.2.2.1, Hl.out, .inr ⟨_, by rw [Hws.out]; exact Hli.out, rfl, rfl⟩⟩, Hr3.out⟩
set_option maxHeartbeats 4000000 in
theorem text12_calls (p : Prg) (l : Loc) (w : World) (hp : PIn w p l) (ok : p.Ok 8000 10) (hf : p.Fit) :
    Calls Tryd.prog 9 #[.agg #[.slice l.ra p.rl l.rc, .slice l.ca p.cl l.cc]] w fun e w' => e = .returned (.string (txt (textL p))) ∧ More w w' := by
  suffices hP : ∀ P : Ending → World → Prop, (∀ w', More w w' → P (.returned (.string (txt (textL p)))) w') → Calls Tryd.prog 9 #[.agg #[.slice l.ra p.rl l.rc, .slice l.ca p.cl l.cc]] w P from hP _ (fun w' m => ⟨rfl, m⟩)
  intro P hP0
  have HP : Hid (∀ w', More w w' → P (.returned (.string (txt (textL p)))) w') := hP0
  have H6 := ok.1.1
  have hcl0 := ok.2.1
  have hcl1 := ok.2.2.1
  have CD : Hid (∀ k, k < p.rl → ∀ w1, Calls Tryd.prog 19 #[.int .i64 (p.log k)] w1 fun e w' => ∃ d : ByteArray, e = .returned (.string d) ∧ d = txt (digI (p.log k)) ∧ d.size ≤ 21 ∧ More w1 w') := fun k hk w1 => by
    refine (digits_calls (p.log k) w1 (hf.log k hk)).mono ?_
    rintro e w' ⟨rfl, mm⟩
    exact ⟨_, rfl, rfl, by rw [txt_size]; exact digI_length _, mm⟩
  have CL : Hid (∀ k, k < p.cl → ∀ w1, Calls Tryd.prog 20 #[.agg #[.int .i64 (p.ins k).op, .int .i64 (p.ins k).a, .int .i64 (p.ins k).b, .int .i64 (p.ins k).c, .int .i64 (p.ins k).n]] w1 fun e w' => ∃ d : ByteArray, e = .returned (.string d) ∧ d = txt (lineL (p.ins k)) ∧ d.size ≤ 100 ∧ More w1 w') := fun k hk w1 => by
    refine (line_calls (p.ins k) w1 (insOk_has (ok.2.2.2 k hk)) ⟨(hf.ins k hk).2.1, (hf.ins k hk).2.2.1, (hf.ins k hk).2.2.2.1, (hf.ins k hk).2.2.2.2⟩).mono ?_
    rintro e w' ⟨rfl, mm⟩
    exact ⟨_, rfl, rfl, by rw [txt_size]; exact lineL_length _, mm⟩
  have HR : Hid (∀ w1 : World, More w w1 → RegsAt w1 l.rb l.ro p.rl p.log p.sec ∧ CodeAt w1 l.cb l.co p.cl p.ins) := fun w1 m1 => ⟨hp.regs.more m1, hp.code.more m1⟩
  have Hra : Hid (0 < p.rl → l.ra = some ⟨l.rb, l.ro, none⟩) := hp.hr
  have hca := hp.hc (by omega)
  rw [hca]
  clear hP0 hp ok hf hca
  obtain ⟨ra, Hra1⟩ : ∃ x, Hid (l.ra = x) := ⟨_, rfl⟩
  obtain ⟨rl, Hrl⟩ : ∃ x, Hid (p.rl = x) := ⟨_, rfl⟩
  obtain ⟨rc, Hrc⟩ : ∃ x, Hid (l.rc = x) := ⟨_, rfl⟩
  obtain ⟨rb, Hrb⟩ : ∃ x, Hid (l.rb = x) := ⟨_, rfl⟩
  obtain ⟨ro, Hro⟩ : ∃ x, Hid (l.ro = x) := ⟨_, rfl⟩
  obtain ⟨cb, Hcb⟩ : ∃ x, Hid (l.cb = x) := ⟨_, rfl⟩
  obtain ⟨co, Hco⟩ : ∃ x, Hid (l.co = x) := ⟨_, rfl⟩
  obtain ⟨cc, Hcc⟩ : ∃ x, Hid (l.cc = x) := ⟨_, rfl⟩
  obtain ⟨cl, Hcl⟩ : ∃ x, Hid (p.cl = x) := ⟨_, rfl⟩
  rw [Hra1.out, Hrl.out, Hrc.out, Hcb.out, Hco.out, Hcc.out, Hcl.out]
  rw [Hrl.out, Hrb.out, Hro.out, Hcb.out, Hco.out, Hcl.out] at HR
  rw [Hra1.out, Hrl.out, Hrb.out, Hro.out] at Hra
  rw [Hrl.out] at CD H6
  rw [Hcl.out] at CL hcl0 hcl1
  have HT : Hid (textL p = regsL p rl ++ insL_ p cl) := by show _ = _; rw [← Hrl.out, ← Hcl.out]; rfl
  obtain ⟨W, HW⟩ : ∃ w_ : World, Hid (w_ = w.alloc (.cells #[.slice ra rl rc, .slice (some ⟨cb, co, none⟩) cl cc] 25)) := ⟨_, rfl⟩
  have HmW : Hid (More w W) := HW.out ▸ (More.refl _).alloc _ _
  have HbW : Hid (Blk W w.heap.size #[.slice ra rl rc, .slice (some ⟨cb, co, none⟩) cl cc] 25) := HW.out ▸ Blk.last _ _ _
  go_enter Tryd.func9, Tryd.ntmps9
  go_wp2_with (fail)
  go_loopg [3, 4] rl (fun g sv kv wr => ∃ (k : Nat) (s : ByteArray), k + g = rl ∧ sv = .string s ∧ kv = .int .i64 k ∧ Hid (s = txt (regsL p k) ∧ More W wr))
  case atStart => exact ⟨0, _, by omega, rfl, rfl, rfl, by rw [HW.out]; exact More.refl _⟩
  case round =>
    obtain ⟨k, s, hkg, rfl, rfl, Hr⟩ := hrel
    have hsz : s.size ≤ 36 * k := by rw [Hr.out.1, txt_size]; exact regsL_length p k
    have b0 : wr.cell? ⟨w.heap.size, 0, none⟩ = some (.slice ra rl rc) := (HbW.out.more Hr.out.2).cell rfl
    have b1 : wr.cell? ⟨w.heap.size, 1, none⟩ = some (.slice (some ⟨cb, co, none⟩) cl cc) := (HbW.out.more Hr.out.2).cell rfl
    cases gk with
    | zero =>
      obtain rfl : k = rl := by omega
      have Hr0 : Hid (s = txt (regsL p k)) := Hr.out.1
      obtain ⟨wm, Hwm⟩ : ∃ wm, Hid (wm = wr ∧ More W wm) := ⟨wr, rfl, Hr.out.2⟩
      go_wp2_with (fail)
      go_loopg [3, 5] cl (fun g sv kv wr => ∃ (j : Nat) (s : ByteArray), j + g = cl ∧ sv = .string s ∧ kv = .int .i64 j ∧ Hid (s = txt (regsL p k ++ insL_ p j) ∧ More W wr))
      case atStart => exact ⟨0, s, by omega, rfl, rfl, by rw [Hr0.out]; simp [insL_], Hr.out.2⟩
      case round =>
        obtain ⟨j, t, hjg, rfl, rfl, Hr2⟩ := hrel
        have htz : t.size ≤ 36 * k + 100 * j := by rw [Hr2.out.1, txt_size, List.length_append]; have := regsL_length p k; have := insL_length p j; omega
        clear b0 b1
        have b1 : wr.cell? ⟨w.heap.size, 1, none⟩ = some (.slice (some ⟨cb, co, none⟩) cl cc) := (HbW.out.more Hr2.out.2).cell rfl
        cases gk with
        | zero =>
          obtain rfl : j = cl := by omega
          have Hend : Hid (P (.returned (.string t)) wr) := by
            have := HP.out wr (HmW.out.trans Hr2.out.2)
            rw [HT.out, ← Hr2.out.1] at this
            exact this
          clear HP
          go_wp2
          exact Hend.out
        | succ g =>
          have hj : j < cl := by omega
          have hji : (j : Int) < cl := by omega
          have hj63 : wrap64 ((j : Int) + 1) = (j : Int) + 1 := by unfold wrap64; omega
          obtain ⟨q0, q1, q2, q3, q4⟩ := (HR.out wr (HmW.out.trans Hr2.out.2)).2 j hj
          have CX := hid_of0 (CL.out j hj)
          have Hnx : Hid (∀ (d : ByteArray) w', d = txt (lineL (p.ins j)) → More W w' → ∃ (j' : Nat) (s' : ByteArray), j' + g = cl ∧ Value.string (t ++ d) = .string s' ∧ Value.int .i64 ((j : Int) + 1) = .int .i64 j' ∧ Hid (s' = txt (regsL p k ++ insL_ p j') ∧ More W w')) := fun d w' hd mm => by
            refine ⟨j + 1, _, by omega, rfl, by simp, ?_, mm⟩
            rw [hd, Hr2.out.1, txt_app, insL_, List.append_assoc]
          obtain ⟨⟨op, a, b, c, n⟩, HI⟩ : ∃ x, Hid (p.ins j = x) := ⟨_, rfl⟩
          rw [HI.out] at q0 q1 q2 q3 q4 CX Hnx
          dsimp only at q0 q1 q2 q3 q4 CX
          clear CL CD HP
          go_wp2_with (fail)
          refine (CX.out wr).mono ?_
          rintro e w3 ⟨d, rfl, hd, hdz, m3⟩
          have HN := hid_of0 (Hnx.out d w3 hd (Hr2.out.2.trans m3))
          clear m3 hd Hnx CX q0 q1 q2 q3 q4 b1
          go_wp2
          go_roundg g
          case measure => omega
          case rel => exact HN.out
    | succ g =>
      have hk : k < rl := by omega
      have hki : (k : Int) < rl := by omega
      have hk63 : wrap64 ((k : Int) + 1) = (k : Int) + 1 := by unfold wrap64; omega
      obtain rfl := Hra.out (by omega)
      obtain ⟨q0, q1⟩ := (HR.out wr (HmW.out.trans Hr.out.2)).1 k hk
      have CX := hid_of0 (CD.out k hk)
      have Hnx : Hid (∀ (d : ByteArray) (b : Bool) w', d = txt (digI (p.log k)) → b = p.sec k → More W w' → ∃ (k' : Nat) (s' : ByteArray), k' + g = rl ∧ Value.string (s ++ txt [114, 101, 103, 105, 111, 110, 32] ++ d ++ txt (if b then [32, 115, 101, 99, 114, 101, 116, 10] else [32, 112, 117, 98, 108, 105, 99, 10])) = .string s' ∧ Value.int .i64 ((k : Int) + 1) = .int .i64 k' ∧ Hid (s' = txt (regsL p k') ∧ More W w')) := fun d b w' hd hb mm => by
        refine ⟨k + 1, _, by omega, rfl, by simp, ?_, mm⟩
        rw [hd, hb, Hr.out.1, txt_app, txt_app, txt_app, regsL, regL]
        simp [List.append_assoc]
      obtain ⟨lg, Hlg⟩ : ∃ x, Hid (p.log k = x) := ⟨_, rfl⟩
      obtain ⟨sec, Hsec⟩ : ∃ x, Hid (p.sec k = x) := ⟨_, rfl⟩
      rw [Hlg.out] at q0 CX Hnx
      rw [Hsec.out] at q1 Hnx
      clear CL CD HP
      go_wp2_with (fail)
      refine (CX.out wr).mono ?_
      rintro e w3 ⟨d, rfl, hd, hdz, m3⟩
      have HN := hid_of0 (Hnx.out d sec w3 hd rfl (Hr.out.2.trans m3))
      have e0 : w3.cell? ⟨w.heap.size, 0, none⟩ = some (.slice (some ⟨rb, ro, none⟩) rl rc) := m3.cell b0
      have e1 := m3.cell q1
      clear m3 hd Hnx CX q0 q1 b0 b1
      cases sec
      all_goals
        go_wp2
        go_roundg g
        case measure => omega
        case rel => exact HN.out
end
end Go.Proofs.YtoedgnedallhnaaDoor
