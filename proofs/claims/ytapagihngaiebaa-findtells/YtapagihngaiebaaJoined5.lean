/-
  The texts InsB, InsC, InsD, RefForm, RefMore, RefWrong, RCopy, RRun, one behind the other, with what is used of them.
-/
import Derived.Test.YtapagihngaiebaaRows
import Derived.WalkKit
import Derived.Deep.LoopGhost
import Derived.Test.YtapagihngaiebaaJoined4
import Derived.Test.YtapagihngaiebaaJoined0
namespace Go.Proofs.Ytapagihngaiebaa
section
open Go.RowKit
set_option maxRecDepth 8000 in
set_option maxHeartbeats 1000000 in
theorem ins_3 (ra : Option Addr) (rl rc : Nat) (ca : Option Addr) (cl cc : Nat) (a b c n regs : Int) (w : World) (P : Prop) (HP : Hid (P ↔ (True ∧ (∀ j, j < 3 → Fld regs (tri 1 1 2 j) (tri a b c j)) ∧ Rgn rl c))) :
    Calls Try.prog 73 #[.agg #[.slice ra rl rc, .slice ca cl cc], .agg #[.int .i64 3, .int .i64 a, .int .i64 b, .int .i64 c, .int .i64 n], .int .i64 regs] w (Says P w) := by
  go_enter Try.func73, Try.ntmps73
  go_wp2_with (fail)
  refine (shape_3 _).mono ?_
  rintro e w1 ⟨g, rfl, hg, m1⟩
  obtain ⟨⟨c0, c1⟩, d0, d1, d2, d3, d4⟩ := boxes2 m1
  have Hg : Hid (∀ j, j < 3 → w1.cell? ⟨g, j, none⟩ = some (.int .i64 (tri 1 1 2 j))) := hg
  have Hm1 : Hid (More w w1) := (((More.refl _).alloc _ _).alloc _ _).trans m1
  clear hg m1
  have HN : Hid True := trivial
  go_wp2
  obtain ⟨W, HW⟩ : ∃ W : World, Hid (W = w1.alloc (.cells #[.int .i64 a, .int .i64 b, .int .i64 c] 3)) := ⟨_, rfl⟩
  have Hm1W : Hid (More w1 W) := HW.out ▸ (More.refl _).alloc _ _
  have Hm : Hid (More w W) := Hm1.out.trans Hm1W.out
  have Hf : Hid (∀ j, j < 3 → W.cell? ⟨w1.heap.size, j, none⟩ = some (.int .i64 (tri a b c j))) := by rw [HW.out]; exact tri_cells (by go_simp) (by go_simp) (by go_simp)
  have Hg' : Hid (∀ j, j < 3 → W.cell? ⟨g, j, none⟩ = some (.int .i64 (tri 1 1 2 j))) := fun j hj => Hm1W.out.cell (Hg.out j hj)
  clear Hg
  replace c0 := Hm1W.out.cell c0
  replace c1 := Hm1W.out.cell c1
  replace d0 := Hm1W.out.cell d0
  replace d1 := Hm1W.out.cell d1
  replace d2 := Hm1W.out.cell d2
  replace d3 := Hm1W.out.cell d3
  replace d4 := Hm1W.out.cell d4
  go_loopg [11] 3 (fun q i wr => ∃ k : Nat, k + q = 3 ∧ i = .int .i64 k ∧ (∀ j, j < k → Fld regs (tri 1 1 2 j) (tri a b c j)) ∧ wr = W)
  case atStart => exact ⟨0, by omega, rfl, fun j hj => by omega, HW.out.symm⟩
  case round =>
    obtain ⟨k, hkg, rfl, hok, rfl⟩ := hrel
    have Hok : Hid (∀ j, j < k → Fld regs (tri 1 1 2 j) (tri a b c j)) := hok
    clear hok
    cases gk with
    | zero =>
      obtain rfl : k = 3 := by omega
      by_cases t0 : 0 ≤ c
      · by_cases t1 : c < (rl : Int)
        · have T : Hid (0 ≤ c ∧ c < (rl : Int)) := ⟨t0, t1⟩
          go_wp2
          go_ret
          exact ⟨_, rfl, ⟨fun _ => HP.out.2 ⟨HN.out, Hok.out, T.out⟩, fun _ => by first | rfl | (simp <;> omega)⟩, Hm.out⟩
        · have T : Hid (¬ c < (rl : Int)) := t1
          go_wp2
          go_ret
          exact ⟨_, rfl, ⟨fun h => by first | (simp at h; done) | (simp at h; omega), fun h => by have h1 := (HP.out.1 h).2.2; have h2 := T.out; have h3 := h1.2; omega⟩, Hm.out⟩
      · have T : Hid (¬ 0 ≤ c) := t0
        go_wp2
        go_ret
        exact ⟨_, rfl, ⟨fun h => by first | (simp at h; done) | (simp at h; omega), fun h => by have h1 := (HP.out.1 h).2.2; have h2 := T.out; have h3 := h1.1; omega⟩, Hm.out⟩
    | succ q =>
      clear d0 d1 d2 d3 d4 c0 c1
      have hk : k < 3 := by omega
      have hk' : (k : Int) < 3 := by omega
      have hk0 : (0 : Int) ≤ (k : Int) := by omega
      have qg := Hg'.out k hk
      have qf := Hf.out k hk
      obtain ⟨x, hx⟩ : ∃ x, tri 1 1 2 k = x := ⟨_, rfl⟩
      obtain ⟨y, hy⟩ : ∃ y, tri a b c k = y := ⟨_, rfl⟩
      rw [hx] at qg
      rw [hy] at qf
      have HX : Hid (tri 1 1 2 k = x ∧ tri a b c k = y) := ⟨hx, hy⟩
      clear hx hy
      have step : Hid (Fld regs x y → ∀ j, j < k + 1 → Fld regs (tri 1 1 2 j) (tri a b c j)) := by
        intro h j hj
        by_cases e : j = k
        · subst e; rw [HX.out.1, HX.out.2]; exact h
        · exact Hok.out j (by omega)
      have back : Hid ((∀ j, j < 3 → Fld regs (tri 1 1 2 j) (tri a b c j)) → Fld regs x y) := by
        intro h
        have := h k hk
        rw [HX.out.1, HX.out.2] at this
        exact this
      by_cases hx0 : x = 0
      · subst hx0
        by_cases hy0 : y = 0
        · subst hy0
          go_wp2
          go_roundg q
          case measure => omega
          case rel => exact ⟨k + 1, by omega, by first | rfl | simp, step.out ⟨fun _ => rfl, fun h => by simp at h⟩, rfl⟩
        · have hy1 : (y != 0) = true := by simp [hy0]
          have Hy : Hid (¬ y = 0) := hy0
          clear hy0
          go_wp2
          go_ret
          exact Says.no (fun h => Hy.out ((back.out (HP.out.1 h).2.1).1 rfl)) Hm.out
      by_cases hx1 : x = 1
      · subst hx1
        clear hx0
        by_cases hy0 : y < 0
        · have Hy : Hid (y < 0) := hy0
          go_wp2
          go_ret
          exact Says.no (fun h => by have := ((back.out (HP.out.1 h).2.1).2 rfl).1; have := Hy.out; omega) Hm.out
        by_cases hy1 : regs ≤ y
        · have Hy : Hid (regs ≤ y) := hy1
          go_wp2
          go_ret
          exact Says.no (fun h => by have := ((back.out (HP.out.1 h).2.1).2 rfl).2; have := Hy.out; omega) Hm.out
        have Hy : Hid (Reg regs y) := ⟨by omega, by omega⟩
        go_wp2
        go_roundg q
        case measure => omega
        case rel => exact ⟨k + 1, by omega, by first | rfl | simp, step.out ⟨fun h => by simp at h, fun _ => Hy.out⟩, rfl⟩
      have Hx : Hid (¬ x = 0 ∧ ¬ x = 1) := ⟨hx0, hx1⟩
      have hx2 : (x == 0) = false := by simp [hx0]
      have hx3 : (x == 1) = false := by simp [hx1]
      clear hx0 hx1
      go_wp2
      go_roundg q
      case measure => omega
      case rel => exact ⟨k + 1, by omega, by first | rfl | simp, step.out ⟨fun h => absurd h Hx.out.1, fun h => absurd h Hx.out.2⟩, rfl⟩

set_option maxRecDepth 8000 in
set_option maxHeartbeats 1000000 in
theorem ins_4 (ra : Option Addr) (rl rc : Nat) (ca : Option Addr) (cl cc : Nat) (a b c n regs : Int) (w : World) (P : Prop) (HP : Hid (P ↔ (True ∧ (∀ j, j < 3 → Fld regs (tri 1 1 2 j) (tri a b c j)) ∧ Rgn rl c))) :
    Calls Try.prog 73 #[.agg #[.slice ra rl rc, .slice ca cl cc], .agg #[.int .i64 4, .int .i64 a, .int .i64 b, .int .i64 c, .int .i64 n], .int .i64 regs] w (Says P w) := by
  go_enter Try.func73, Try.ntmps73
  go_wp2_with (fail)
  refine (shape_4 _).mono ?_
  rintro e w1 ⟨g, rfl, hg, m1⟩
  obtain ⟨⟨c0, c1⟩, d0, d1, d2, d3, d4⟩ := boxes2 m1
  have Hg : Hid (∀ j, j < 3 → w1.cell? ⟨g, j, none⟩ = some (.int .i64 (tri 1 1 2 j))) := hg
  have Hm1 : Hid (More w w1) := (((More.refl _).alloc _ _).alloc _ _).trans m1
  clear hg m1
  have HN : Hid True := trivial
  go_wp2
  obtain ⟨W, HW⟩ : ∃ W : World, Hid (W = w1.alloc (.cells #[.int .i64 a, .int .i64 b, .int .i64 c] 3)) := ⟨_, rfl⟩
  have Hm1W : Hid (More w1 W) := HW.out ▸ (More.refl _).alloc _ _
  have Hm : Hid (More w W) := Hm1.out.trans Hm1W.out
  have Hf : Hid (∀ j, j < 3 → W.cell? ⟨w1.heap.size, j, none⟩ = some (.int .i64 (tri a b c j))) := by rw [HW.out]; exact tri_cells (by go_simp) (by go_simp) (by go_simp)
  have Hg' : Hid (∀ j, j < 3 → W.cell? ⟨g, j, none⟩ = some (.int .i64 (tri 1 1 2 j))) := fun j hj => Hm1W.out.cell (Hg.out j hj)
  clear Hg
  replace c0 := Hm1W.out.cell c0
  replace c1 := Hm1W.out.cell c1
  replace d0 := Hm1W.out.cell d0
  replace d1 := Hm1W.out.cell d1
  replace d2 := Hm1W.out.cell d2
  replace d3 := Hm1W.out.cell d3
  replace d4 := Hm1W.out.cell d4
  go_loopg [11] 3 (fun q i wr => ∃ k : Nat, k + q = 3 ∧ i = .int .i64 k ∧ (∀ j, j < k → Fld regs (tri 1 1 2 j) (tri a b c j)) ∧ wr = W)
  case atStart => exact ⟨0, by omega, rfl, fun j hj => by omega, HW.out.symm⟩
  case round =>
    obtain ⟨k, hkg, rfl, hok, rfl⟩ := hrel
    have Hok : Hid (∀ j, j < k → Fld regs (tri 1 1 2 j) (tri a b c j)) := hok
    clear hok
    cases gk with
    | zero =>
      obtain rfl : k = 3 := by omega
      by_cases t0 : 0 ≤ c
      · by_cases t1 : c < (rl : Int)
        · have T : Hid (0 ≤ c ∧ c < (rl : Int)) := ⟨t0, t1⟩
          go_wp2
          go_ret
          exact ⟨_, rfl, ⟨fun _ => HP.out.2 ⟨HN.out, Hok.out, T.out⟩, fun _ => by first | rfl | (simp <;> omega)⟩, Hm.out⟩
        · have T : Hid (¬ c < (rl : Int)) := t1
          go_wp2
          go_ret
          exact ⟨_, rfl, ⟨fun h => by first | (simp at h; done) | (simp at h; omega), fun h => by have h1 := (HP.out.1 h).2.2; have h2 := T.out; have h3 := h1.2; omega⟩, Hm.out⟩
      · have T : Hid (¬ 0 ≤ c) := t0
        go_wp2
        go_ret
        exact ⟨_, rfl, ⟨fun h => by first | (simp at h; done) | (simp at h; omega), fun h => by have h1 := (HP.out.1 h).2.2; have h2 := T.out; have h3 := h1.1; omega⟩, Hm.out⟩
    | succ q =>
      clear d0 d1 d2 d3 d4 c0 c1
      have hk : k < 3 := by omega
      have hk' : (k : Int) < 3 := by omega
      have hk0 : (0 : Int) ≤ (k : Int) := by omega
      have qg := Hg'.out k hk
      have qf := Hf.out k hk
      obtain ⟨x, hx⟩ : ∃ x, tri 1 1 2 k = x := ⟨_, rfl⟩
      obtain ⟨y, hy⟩ : ∃ y, tri a b c k = y := ⟨_, rfl⟩
      rw [hx] at qg
      rw [hy] at qf
      have HX : Hid (tri 1 1 2 k = x ∧ tri a b c k = y) := ⟨hx, hy⟩
      clear hx hy
      have step : Hid (Fld regs x y → ∀ j, j < k + 1 → Fld regs (tri 1 1 2 j) (tri a b c j)) := by
        intro h j hj
        by_cases e : j = k
        · subst e; rw [HX.out.1, HX.out.2]; exact h
        · exact Hok.out j (by omega)
      have back : Hid ((∀ j, j < 3 → Fld regs (tri 1 1 2 j) (tri a b c j)) → Fld regs x y) := by
        intro h
        have := h k hk
        rw [HX.out.1, HX.out.2] at this
        exact this
      by_cases hx0 : x = 0
      · subst hx0
        by_cases hy0 : y = 0
        · subst hy0
          go_wp2
          go_roundg q
          case measure => omega
          case rel => exact ⟨k + 1, by omega, by first | rfl | simp, step.out ⟨fun _ => rfl, fun h => by simp at h⟩, rfl⟩
        · have hy1 : (y != 0) = true := by simp [hy0]
          have Hy : Hid (¬ y = 0) := hy0
          clear hy0
          go_wp2
          go_ret
          exact Says.no (fun h => Hy.out ((back.out (HP.out.1 h).2.1).1 rfl)) Hm.out
      by_cases hx1 : x = 1
      · subst hx1
        clear hx0
        by_cases hy0 : y < 0
        · have Hy : Hid (y < 0) := hy0
          go_wp2
          go_ret
          exact Says.no (fun h => by have := ((back.out (HP.out.1 h).2.1).2 rfl).1; have := Hy.out; omega) Hm.out
        by_cases hy1 : regs ≤ y
        · have Hy : Hid (regs ≤ y) := hy1
          go_wp2
          go_ret
          exact Says.no (fun h => by have := ((back.out (HP.out.1 h).2.1).2 rfl).2; have := Hy.out; omega) Hm.out
        have Hy : Hid (Reg regs y) := ⟨by omega, by omega⟩
        go_wp2
        go_roundg q
        case measure => omega
        case rel => exact ⟨k + 1, by omega, by first | rfl | simp, step.out ⟨fun h => by simp at h, fun _ => Hy.out⟩, rfl⟩
      have Hx : Hid (¬ x = 0 ∧ ¬ x = 1) := ⟨hx0, hx1⟩
      have hx2 : (x == 0) = false := by simp [hx0]
      have hx3 : (x == 1) = false := by simp [hx1]
      clear hx0 hx1
      go_wp2
      go_roundg q
      case measure => omega
      case rel => exact ⟨k + 1, by omega, by first | rfl | simp, step.out ⟨fun h => absurd h Hx.out.1, fun h => absurd h Hx.out.2⟩, rfl⟩

set_option maxRecDepth 8000 in
set_option maxHeartbeats 1000000 in
theorem ins_12 (ra : Option Addr) (rl rc : Nat) (ca : Option Addr) (cl cc : Nat) (a b c n regs : Int) (w : World) (P : Prop) (HP : Hid (P ↔ (n = 0 ∧ (∀ j, j < 3 → Fld regs (tri 0 0 0 j) (tri a b c j)) ∧ True))) :
    Calls Try.prog 73 #[.agg #[.slice ra rl rc, .slice ca cl cc], .agg #[.int .i64 12, .int .i64 a, .int .i64 b, .int .i64 c, .int .i64 n], .int .i64 regs] w (Says P w) := by
  go_enter Try.func73, Try.ntmps73
  go_wp2_with (fail)
  refine (shape_12 _).mono ?_
  rintro e w1 ⟨g, rfl, hg, m1⟩
  obtain ⟨⟨c0, c1⟩, d0, d1, d2, d3, d4⟩ := boxes2 m1
  have Hg : Hid (∀ j, j < 3 → w1.cell? ⟨g, j, none⟩ = some (.int .i64 (tri 0 0 0 j))) := hg
  have Hm1 : Hid (More w w1) := (((More.refl _).alloc _ _).alloc _ _).trans m1
  clear hg m1
  by_cases hn0 : n = 0
  rotate_left
  · have HN : Hid (¬ n = 0) := hn0
    have hn1 : (n != 0) = true := by simp [hn0]
    clear hn0
    go_wp2
    go_ret
    exact Says.no (fun h => HN.out (HP.out.1 h).1) Hm1.out
  have HN : Hid (n = 0) := hn0
  have hn1 : (n != 0) = false := by simp [hn0]
  clear hn0
  go_wp2
  obtain ⟨W, HW⟩ : ∃ W : World, Hid (W = w1.alloc (.cells #[.int .i64 a, .int .i64 b, .int .i64 c] 3)) := ⟨_, rfl⟩
  have Hm1W : Hid (More w1 W) := HW.out ▸ (More.refl _).alloc _ _
  have Hm : Hid (More w W) := Hm1.out.trans Hm1W.out
  have Hf : Hid (∀ j, j < 3 → W.cell? ⟨w1.heap.size, j, none⟩ = some (.int .i64 (tri a b c j))) := by rw [HW.out]; exact tri_cells (by go_simp) (by go_simp) (by go_simp)
  have Hg' : Hid (∀ j, j < 3 → W.cell? ⟨g, j, none⟩ = some (.int .i64 (tri 0 0 0 j))) := fun j hj => Hm1W.out.cell (Hg.out j hj)
  clear Hg
  replace c0 := Hm1W.out.cell c0
  replace c1 := Hm1W.out.cell c1
  replace d0 := Hm1W.out.cell d0
  replace d1 := Hm1W.out.cell d1
  replace d2 := Hm1W.out.cell d2
  replace d3 := Hm1W.out.cell d3
  replace d4 := Hm1W.out.cell d4
  go_loopg [11] 3 (fun q i wr => ∃ k : Nat, k + q = 3 ∧ i = .int .i64 k ∧ (∀ j, j < k → Fld regs (tri 0 0 0 j) (tri a b c j)) ∧ wr = W)
  case atStart => exact ⟨0, by omega, rfl, fun j hj => by omega, HW.out.symm⟩
  case round =>
    obtain ⟨k, hkg, rfl, hok, rfl⟩ := hrel
    have Hok : Hid (∀ j, j < k → Fld regs (tri 0 0 0 j) (tri a b c j)) := hok
    clear hok
    cases gk with
    | zero =>
      obtain rfl : k = 3 := by omega
      go_wp2
      go_ret
      exact Says.yes (HP.out.2 ⟨HN.out, Hok.out, trivial⟩) Hm.out
    | succ q =>
      clear d0 d1 d2 d3 d4 c0 c1
      have hk : k < 3 := by omega
      have hk' : (k : Int) < 3 := by omega
      have hk0 : (0 : Int) ≤ (k : Int) := by omega
      have qg := Hg'.out k hk
      have qf := Hf.out k hk
      obtain ⟨x, hx⟩ : ∃ x, tri 0 0 0 k = x := ⟨_, rfl⟩
      obtain ⟨y, hy⟩ : ∃ y, tri a b c k = y := ⟨_, rfl⟩
      rw [hx] at qg
      rw [hy] at qf
      have HX : Hid (tri 0 0 0 k = x ∧ tri a b c k = y) := ⟨hx, hy⟩
      clear hx hy
      have step : Hid (Fld regs x y → ∀ j, j < k + 1 → Fld regs (tri 0 0 0 j) (tri a b c j)) := by
        intro h j hj
        by_cases e : j = k
        · subst e; rw [HX.out.1, HX.out.2]; exact h
        · exact Hok.out j (by omega)
      have back : Hid ((∀ j, j < 3 → Fld regs (tri 0 0 0 j) (tri a b c j)) → Fld regs x y) := by
        intro h
        have := h k hk
        rw [HX.out.1, HX.out.2] at this
        exact this
      by_cases hx0 : x = 0
      · subst hx0
        by_cases hy0 : y = 0
        · subst hy0
          go_wp2
          go_roundg q
          case measure => omega
          case rel => exact ⟨k + 1, by omega, by first | rfl | simp, step.out ⟨fun _ => rfl, fun h => by simp at h⟩, rfl⟩
        · have hy1 : (y != 0) = true := by simp [hy0]
          have Hy : Hid (¬ y = 0) := hy0
          clear hy0
          go_wp2
          go_ret
          exact Says.no (fun h => Hy.out ((back.out (HP.out.1 h).2.1).1 rfl)) Hm.out
      by_cases hx1 : x = 1
      · subst hx1
        clear hx0
        by_cases hy0 : y < 0
        · have Hy : Hid (y < 0) := hy0
          go_wp2
          go_ret
          exact Says.no (fun h => by have := ((back.out (HP.out.1 h).2.1).2 rfl).1; have := Hy.out; omega) Hm.out
        by_cases hy1 : regs ≤ y
        · have Hy : Hid (regs ≤ y) := hy1
          go_wp2
          go_ret
          exact Says.no (fun h => by have := ((back.out (HP.out.1 h).2.1).2 rfl).2; have := Hy.out; omega) Hm.out
        have Hy : Hid (Reg regs y) := ⟨by omega, by omega⟩
        go_wp2
        go_roundg q
        case measure => omega
        case rel => exact ⟨k + 1, by omega, by first | rfl | simp, step.out ⟨fun h => by simp at h, fun _ => Hy.out⟩, rfl⟩
      have Hx : Hid (¬ x = 0 ∧ ¬ x = 1) := ⟨hx0, hx1⟩
      have hx2 : (x == 0) = false := by simp [hx0]
      have hx3 : (x == 1) = false := by simp [hx1]
      clear hx0 hx1
      go_wp2
      go_roundg q
      case measure => omega
      case rel => exact ⟨k + 1, by omega, by first | rfl | simp, step.out ⟨fun h => absurd h Hx.out.1, fun h => absurd h Hx.out.2⟩, rfl⟩
set_option maxRecDepth 8000 in
set_option maxHeartbeats 1000000 in
theorem ins_5 (ra : Option Addr) (rl rc : Nat) (ca : Option Addr) (cl cc : Nat) (a b c n regs : Int) (w : World) (rb ro : Nat) (log : Nat → Int) (sec : Nat → Bool) (hra : 0 < rl → ra = some ⟨rb, ro, none⟩) (hr : RegsAt w rb ro rl log sec) (hok : RegionsOk rl log) (P : Prop) (HP : Hid (P ↔ (True ∧ (∀ j, j < 3 → Fld regs (tri 1 0 2 j) (tri a b c j)) ∧ Rgn rl c ∧ Wrd log c n))) :
    Calls Try.prog 73 #[.agg #[.slice ra rl rc, .slice ca cl cc], .agg #[.int .i64 5, .int .i64 a, .int .i64 b, .int .i64 c, .int .i64 n], .int .i64 regs] w (Says P w) := by
  have Hr : Hid ((0 < rl → ra = some ⟨rb, ro, none⟩) ∧ RegsAt w rb ro rl log sec ∧ RegionsOk rl log) := ⟨hra, hr, hok⟩
  clear hra hr hok
  go_enter Try.func73, Try.ntmps73
  go_wp2_with (fail)
  refine (shape_5 _).mono ?_
  rintro e w1 ⟨g, rfl, hg, m1⟩
  obtain ⟨⟨c0, c1⟩, d0, d1, d2, d3, d4⟩ := boxes2 m1
  have Hg : Hid (∀ j, j < 3 → w1.cell? ⟨g, j, none⟩ = some (.int .i64 (tri 1 0 2 j))) := hg
  have Hm1 : Hid (More w w1) := (((More.refl _).alloc _ _).alloc _ _).trans m1
  clear hg m1
  have HN : Hid True := trivial
  go_wp2
  obtain ⟨W, HW⟩ : ∃ W : World, Hid (W = w1.alloc (.cells #[.int .i64 a, .int .i64 b, .int .i64 c] 3)) := ⟨_, rfl⟩
  have Hm1W : Hid (More w1 W) := HW.out ▸ (More.refl _).alloc _ _
  have Hm : Hid (More w W) := Hm1.out.trans Hm1W.out
  have Hf : Hid (∀ j, j < 3 → W.cell? ⟨w1.heap.size, j, none⟩ = some (.int .i64 (tri a b c j))) := by rw [HW.out]; exact tri_cells (by go_simp) (by go_simp) (by go_simp)
  have Hg' : Hid (∀ j, j < 3 → W.cell? ⟨g, j, none⟩ = some (.int .i64 (tri 1 0 2 j))) := fun j hj => Hm1W.out.cell (Hg.out j hj)
  clear Hg
  replace c0 := Hm1W.out.cell c0
  replace c1 := Hm1W.out.cell c1
  replace d0 := Hm1W.out.cell d0
  replace d1 := Hm1W.out.cell d1
  replace d2 := Hm1W.out.cell d2
  replace d3 := Hm1W.out.cell d3
  replace d4 := Hm1W.out.cell d4
  go_loopg [11] 3 (fun q i wr => ∃ k : Nat, k + q = 3 ∧ i = .int .i64 k ∧ (∀ j, j < k → Fld regs (tri 1 0 2 j) (tri a b c j)) ∧ wr = W)
  case atStart => exact ⟨0, by omega, rfl, fun j hj => by omega, HW.out.symm⟩
  case round =>
    obtain ⟨k, hkg, rfl, hok, rfl⟩ := hrel
    have Hok : Hid (∀ j, j < k → Fld regs (tri 1 0 2 j) (tri a b c j)) := hok
    clear hok
    cases gk with
    | zero =>
      obtain rfl : k = 3 := by omega
      by_cases t0 : c < 0
      · have T : Hid (c < 0) := t0
        go_wp2
        go_ret
        exact ⟨_, rfl, ⟨fun h => by first | (simp at h; done) | (simp at h; omega), fun h => by have h1 := (HP.out.1 h).2.2; have h2 := T.out; have h3 := h1.1.1; omega⟩, Hm.out⟩
      by_cases t1 : (rl : Int) ≤ c
      · have T : Hid ((rl : Int) ≤ c) := t1
        go_wp2
        go_ret
        exact ⟨_, rfl, ⟨fun h => by first | (simp at h; done) | (simp at h; omega), fun h => by have h1 := (HP.out.1 h).2.2; have h2 := T.out; have h3 := h1.1.2; omega⟩, Hm.out⟩
      have hk : c.toNat < rl := by omega
      have t0' : 0 ≤ c := by omega
      have t1' : c < (rl : Int) := by omega
      have Hrgn : Hid (Rgn rl c) := ⟨t0', t1'⟩
      obtain rfl := Hr.out.1 (by omega)
      have q0 := ((Hr.out.2.1.more Hm.out) c.toNat hk).1
      have q1 := ((Hr.out.2.1.more Hm.out) c.toNat hk).2
      have Hlog : Hid (0 ≤ log c.toNat ∧ log c.toNat ≤ 6) := Hr.out.2.2.2 c.toNat hk
      obtain ⟨lk, hlk⟩ : ∃ x, log c.toNat = x := ⟨_, rfl⟩
      rw [hlk] at q0 Hlog
      have Hlk : Hid (log c.toNat = lk) := hlk
      clear hlk
      go_wp2_with (fail)
      obtain ⟨nw, hnw⟩ : ∃ x, wordsI lk = x := ⟨_, rfl⟩
      refine ((ref_words lk Hlog.out.1 Hlog.out.2 (sec c.toNat) _)).mono ?_
      rw [hnw]
      have Hnw : Hid (Wrd log c n ↔ (0 ≤ n ∧ n < nw)) := by unfold Wrd; rw [Hlk.out, ← hnw]; exact Iff.rfl
      clear hnw q0 q1
      rintro e w5 ⟨rfl, m5⟩
      have d4' := m5.cell d4
      clear d4 d3 d2 d1 d0 c0 c1
      have Hm5 : Hid (More w w5) := Hm.out.trans m5
      clear m5
      by_cases t2 : 0 ≤ n
      · by_cases t3 : n < nw
        · have T : Hid (Wrd log c n) := Hnw.out.2 ⟨t2, t3⟩
          go_wp2
          go_ret
          exact ⟨_, rfl, ⟨fun _ => HP.out.2 ⟨HN.out, Hok.out, Hrgn.out, T.out⟩, fun _ => by first | rfl | (simp <;> omega)⟩, Hm5.out⟩
        · have T : Hid (nw ≤ n) := (by omega : nw ≤ n)
          go_wp2
          go_ret
          exact ⟨_, rfl, ⟨fun h => by first | (simp at h; done) | (simp at h; omega), fun h => by have h1 := (HP.out.1 h).2.2; have h2 := T.out; have h3 := (Hnw.out.1 h1.2).2; omega⟩, Hm5.out⟩
      · have T : Hid (n < 0) := (by omega : n < 0)
        go_wp2
        go_ret
        exact ⟨_, rfl, ⟨fun h => by first | (simp at h; done) | (simp at h; omega), fun h => by have h1 := (HP.out.1 h).2.2; have h2 := T.out; have h3 := (Hnw.out.1 h1.2).1; omega⟩, Hm5.out⟩
    | succ q =>
      clear d0 d1 d2 d3 d4 c0 c1
      have hk : k < 3 := by omega
      have hk' : (k : Int) < 3 := by omega
      have hk0 : (0 : Int) ≤ (k : Int) := by omega
      have qg := Hg'.out k hk
      have qf := Hf.out k hk
      obtain ⟨x, hx⟩ : ∃ x, tri 1 0 2 k = x := ⟨_, rfl⟩
      obtain ⟨y, hy⟩ : ∃ y, tri a b c k = y := ⟨_, rfl⟩
      rw [hx] at qg
      rw [hy] at qf
      have HX : Hid (tri 1 0 2 k = x ∧ tri a b c k = y) := ⟨hx, hy⟩
      clear hx hy
      have step : Hid (Fld regs x y → ∀ j, j < k + 1 → Fld regs (tri 1 0 2 j) (tri a b c j)) := by
        intro h j hj
        by_cases e : j = k
        · subst e; rw [HX.out.1, HX.out.2]; exact h
        · exact Hok.out j (by omega)
      have back : Hid ((∀ j, j < 3 → Fld regs (tri 1 0 2 j) (tri a b c j)) → Fld regs x y) := by
        intro h
        have := h k hk
        rw [HX.out.1, HX.out.2] at this
        exact this
      by_cases hx0 : x = 0
      · subst hx0
        by_cases hy0 : y = 0
        · subst hy0
          go_wp2
          go_roundg q
          case measure => omega
          case rel => exact ⟨k + 1, by omega, by first | rfl | simp, step.out ⟨fun _ => rfl, fun h => by simp at h⟩, rfl⟩
        · have hy1 : (y != 0) = true := by simp [hy0]
          have Hy : Hid (¬ y = 0) := hy0
          clear hy0
          go_wp2
          go_ret
          exact Says.no (fun h => Hy.out ((back.out (HP.out.1 h).2.1).1 rfl)) Hm.out
      by_cases hx1 : x = 1
      · subst hx1
        clear hx0
        by_cases hy0 : y < 0
        · have Hy : Hid (y < 0) := hy0
          go_wp2
          go_ret
          exact Says.no (fun h => by have := ((back.out (HP.out.1 h).2.1).2 rfl).1; have := Hy.out; omega) Hm.out
        by_cases hy1 : regs ≤ y
        · have Hy : Hid (regs ≤ y) := hy1
          go_wp2
          go_ret
          exact Says.no (fun h => by have := ((back.out (HP.out.1 h).2.1).2 rfl).2; have := Hy.out; omega) Hm.out
        have Hy : Hid (Reg regs y) := ⟨by omega, by omega⟩
        go_wp2
        go_roundg q
        case measure => omega
        case rel => exact ⟨k + 1, by omega, by first | rfl | simp, step.out ⟨fun h => by simp at h, fun _ => Hy.out⟩, rfl⟩
      have Hx : Hid (¬ x = 0 ∧ ¬ x = 1) := ⟨hx0, hx1⟩
      have hx2 : (x == 0) = false := by simp [hx0]
      have hx3 : (x == 1) = false := by simp [hx1]
      clear hx0 hx1
      go_wp2
      go_roundg q
      case measure => omega
      case rel => exact ⟨k + 1, by omega, by first | rfl | simp, step.out ⟨fun h => absurd h Hx.out.1, fun h => absurd h Hx.out.2⟩, rfl⟩

set_option maxRecDepth 8000 in
set_option maxHeartbeats 1000000 in
theorem ins_6 (ra : Option Addr) (rl rc : Nat) (ca : Option Addr) (cl cc : Nat) (a b c n regs : Int) (w : World) (rb ro : Nat) (log : Nat → Int) (sec : Nat → Bool) (hra : 0 < rl → ra = some ⟨rb, ro, none⟩) (hr : RegsAt w rb ro rl log sec) (hok : RegionsOk rl log) (P : Prop) (HP : Hid (P ↔ (True ∧ (∀ j, j < 3 → Fld regs (tri 1 0 2 j) (tri a b c j)) ∧ Rgn rl c ∧ Wrd log c n))) :
    Calls Try.prog 73 #[.agg #[.slice ra rl rc, .slice ca cl cc], .agg #[.int .i64 6, .int .i64 a, .int .i64 b, .int .i64 c, .int .i64 n], .int .i64 regs] w (Says P w) := by
  have Hr : Hid ((0 < rl → ra = some ⟨rb, ro, none⟩) ∧ RegsAt w rb ro rl log sec ∧ RegionsOk rl log) := ⟨hra, hr, hok⟩
  clear hra hr hok
  go_enter Try.func73, Try.ntmps73
  go_wp2_with (fail)
  refine (shape_6 _).mono ?_
  rintro e w1 ⟨g, rfl, hg, m1⟩
  obtain ⟨⟨c0, c1⟩, d0, d1, d2, d3, d4⟩ := boxes2 m1
  have Hg : Hid (∀ j, j < 3 → w1.cell? ⟨g, j, none⟩ = some (.int .i64 (tri 1 0 2 j))) := hg
  have Hm1 : Hid (More w w1) := (((More.refl _).alloc _ _).alloc _ _).trans m1
  clear hg m1
  have HN : Hid True := trivial
  go_wp2
  obtain ⟨W, HW⟩ : ∃ W : World, Hid (W = w1.alloc (.cells #[.int .i64 a, .int .i64 b, .int .i64 c] 3)) := ⟨_, rfl⟩
  have Hm1W : Hid (More w1 W) := HW.out ▸ (More.refl _).alloc _ _
  have Hm : Hid (More w W) := Hm1.out.trans Hm1W.out
  have Hf : Hid (∀ j, j < 3 → W.cell? ⟨w1.heap.size, j, none⟩ = some (.int .i64 (tri a b c j))) := by rw [HW.out]; exact tri_cells (by go_simp) (by go_simp) (by go_simp)
  have Hg' : Hid (∀ j, j < 3 → W.cell? ⟨g, j, none⟩ = some (.int .i64 (tri 1 0 2 j))) := fun j hj => Hm1W.out.cell (Hg.out j hj)
  clear Hg
  replace c0 := Hm1W.out.cell c0
  replace c1 := Hm1W.out.cell c1
  replace d0 := Hm1W.out.cell d0
  replace d1 := Hm1W.out.cell d1
  replace d2 := Hm1W.out.cell d2
  replace d3 := Hm1W.out.cell d3
  replace d4 := Hm1W.out.cell d4
  go_loopg [11] 3 (fun q i wr => ∃ k : Nat, k + q = 3 ∧ i = .int .i64 k ∧ (∀ j, j < k → Fld regs (tri 1 0 2 j) (tri a b c j)) ∧ wr = W)
  case atStart => exact ⟨0, by omega, rfl, fun j hj => by omega, HW.out.symm⟩
  case round =>
    obtain ⟨k, hkg, rfl, hok, rfl⟩ := hrel
    have Hok : Hid (∀ j, j < k → Fld regs (tri 1 0 2 j) (tri a b c j)) := hok
    clear hok
    cases gk with
    | zero =>
      obtain rfl : k = 3 := by omega
      by_cases t0 : c < 0
      · have T : Hid (c < 0) := t0
        go_wp2
        go_ret
        exact ⟨_, rfl, ⟨fun h => by first | (simp at h; done) | (simp at h; omega), fun h => by have h1 := (HP.out.1 h).2.2; have h2 := T.out; have h3 := h1.1.1; omega⟩, Hm.out⟩
      by_cases t1 : (rl : Int) ≤ c
      · have T : Hid ((rl : Int) ≤ c) := t1
        go_wp2
        go_ret
        exact ⟨_, rfl, ⟨fun h => by first | (simp at h; done) | (simp at h; omega), fun h => by have h1 := (HP.out.1 h).2.2; have h2 := T.out; have h3 := h1.1.2; omega⟩, Hm.out⟩
      have hk : c.toNat < rl := by omega
      have t0' : 0 ≤ c := by omega
      have t1' : c < (rl : Int) := by omega
      have Hrgn : Hid (Rgn rl c) := ⟨t0', t1'⟩
      obtain rfl := Hr.out.1 (by omega)
      have q0 := ((Hr.out.2.1.more Hm.out) c.toNat hk).1
      have q1 := ((Hr.out.2.1.more Hm.out) c.toNat hk).2
      have Hlog : Hid (0 ≤ log c.toNat ∧ log c.toNat ≤ 6) := Hr.out.2.2.2 c.toNat hk
      obtain ⟨lk, hlk⟩ : ∃ x, log c.toNat = x := ⟨_, rfl⟩
      rw [hlk] at q0 Hlog
      have Hlk : Hid (log c.toNat = lk) := hlk
      clear hlk
      go_wp2_with (fail)
      obtain ⟨nw, hnw⟩ : ∃ x, wordsI lk = x := ⟨_, rfl⟩
      refine ((ref_words lk Hlog.out.1 Hlog.out.2 (sec c.toNat) _)).mono ?_
      rw [hnw]
      have Hnw : Hid (Wrd log c n ↔ (0 ≤ n ∧ n < nw)) := by unfold Wrd; rw [Hlk.out, ← hnw]; exact Iff.rfl
      clear hnw q0 q1
      rintro e w5 ⟨rfl, m5⟩
      have d4' := m5.cell d4
      clear d4 d3 d2 d1 d0 c0 c1
      have Hm5 : Hid (More w w5) := Hm.out.trans m5
      clear m5
      by_cases t2 : 0 ≤ n
      · by_cases t3 : n < nw
        · have T : Hid (Wrd log c n) := Hnw.out.2 ⟨t2, t3⟩
          go_wp2
          go_ret
          exact ⟨_, rfl, ⟨fun _ => HP.out.2 ⟨HN.out, Hok.out, Hrgn.out, T.out⟩, fun _ => by first | rfl | (simp <;> omega)⟩, Hm5.out⟩
        · have T : Hid (nw ≤ n) := (by omega : nw ≤ n)
          go_wp2
          go_ret
          exact ⟨_, rfl, ⟨fun h => by first | (simp at h; done) | (simp at h; omega), fun h => by have h1 := (HP.out.1 h).2.2; have h2 := T.out; have h3 := (Hnw.out.1 h1.2).2; omega⟩, Hm5.out⟩
      · have T : Hid (n < 0) := (by omega : n < 0)
        go_wp2
        go_ret
        exact ⟨_, rfl, ⟨fun h => by first | (simp at h; done) | (simp at h; omega), fun h => by have h1 := (HP.out.1 h).2.2; have h2 := T.out; have h3 := (Hnw.out.1 h1.2).1; omega⟩, Hm5.out⟩
    | succ q =>
      clear d0 d1 d2 d3 d4 c0 c1
      have hk : k < 3 := by omega
      have hk' : (k : Int) < 3 := by omega
      have hk0 : (0 : Int) ≤ (k : Int) := by omega
      have qg := Hg'.out k hk
      have qf := Hf.out k hk
      obtain ⟨x, hx⟩ : ∃ x, tri 1 0 2 k = x := ⟨_, rfl⟩
      obtain ⟨y, hy⟩ : ∃ y, tri a b c k = y := ⟨_, rfl⟩
      rw [hx] at qg
      rw [hy] at qf
      have HX : Hid (tri 1 0 2 k = x ∧ tri a b c k = y) := ⟨hx, hy⟩
      clear hx hy
      have step : Hid (Fld regs x y → ∀ j, j < k + 1 → Fld regs (tri 1 0 2 j) (tri a b c j)) := by
        intro h j hj
        by_cases e : j = k
        · subst e; rw [HX.out.1, HX.out.2]; exact h
        · exact Hok.out j (by omega)
      have back : Hid ((∀ j, j < 3 → Fld regs (tri 1 0 2 j) (tri a b c j)) → Fld regs x y) := by
        intro h
        have := h k hk
        rw [HX.out.1, HX.out.2] at this
        exact this
      by_cases hx0 : x = 0
      · subst hx0
        by_cases hy0 : y = 0
        · subst hy0
          go_wp2
          go_roundg q
          case measure => omega
          case rel => exact ⟨k + 1, by omega, by first | rfl | simp, step.out ⟨fun _ => rfl, fun h => by simp at h⟩, rfl⟩
        · have hy1 : (y != 0) = true := by simp [hy0]
          have Hy : Hid (¬ y = 0) := hy0
          clear hy0
          go_wp2
          go_ret
          exact Says.no (fun h => Hy.out ((back.out (HP.out.1 h).2.1).1 rfl)) Hm.out
      by_cases hx1 : x = 1
      · subst hx1
        clear hx0
        by_cases hy0 : y < 0
        · have Hy : Hid (y < 0) := hy0
          go_wp2
          go_ret
          exact Says.no (fun h => by have := ((back.out (HP.out.1 h).2.1).2 rfl).1; have := Hy.out; omega) Hm.out
        by_cases hy1 : regs ≤ y
        · have Hy : Hid (regs ≤ y) := hy1
          go_wp2
          go_ret
          exact Says.no (fun h => by have := ((back.out (HP.out.1 h).2.1).2 rfl).2; have := Hy.out; omega) Hm.out
        have Hy : Hid (Reg regs y) := ⟨by omega, by omega⟩
        go_wp2
        go_roundg q
        case measure => omega
        case rel => exact ⟨k + 1, by omega, by first | rfl | simp, step.out ⟨fun h => by simp at h, fun _ => Hy.out⟩, rfl⟩
      have Hx : Hid (¬ x = 0 ∧ ¬ x = 1) := ⟨hx0, hx1⟩
      have hx2 : (x == 0) = false := by simp [hx0]
      have hx3 : (x == 1) = false := by simp [hx1]
      clear hx0 hx1
      go_wp2
      go_roundg q
      case measure => omega
      case rel => exact ⟨k + 1, by omega, by first | rfl | simp, step.out ⟨fun h => absurd h Hx.out.1, fun h => absurd h Hx.out.2⟩, rfl⟩

set_option maxRecDepth 8000 in
set_option maxHeartbeats 1000000 in
theorem ins_7 (ra : Option Addr) (rl rc : Nat) (ca : Option Addr) (cl cc : Nat) (a b c n regs : Int) (w : World) (P : Prop) (HP : Hid (P ↔ (True ∧ (∀ j, j < 3 → Fld regs (tri 0 0 0 j) (tri a b c j)) ∧ Plc cl n))) :
    Calls Try.prog 73 #[.agg #[.slice ra rl rc, .slice ca cl cc], .agg #[.int .i64 7, .int .i64 a, .int .i64 b, .int .i64 c, .int .i64 n], .int .i64 regs] w (Says P w) := by
  go_enter Try.func73, Try.ntmps73
  go_wp2_with (fail)
  refine (shape_7 _).mono ?_
  rintro e w1 ⟨g, rfl, hg, m1⟩
  obtain ⟨⟨c0, c1⟩, d0, d1, d2, d3, d4⟩ := boxes2 m1
  have Hg : Hid (∀ j, j < 3 → w1.cell? ⟨g, j, none⟩ = some (.int .i64 (tri 0 0 0 j))) := hg
  have Hm1 : Hid (More w w1) := (((More.refl _).alloc _ _).alloc _ _).trans m1
  clear hg m1
  have HN : Hid True := trivial
  go_wp2
  obtain ⟨W, HW⟩ : ∃ W : World, Hid (W = w1.alloc (.cells #[.int .i64 a, .int .i64 b, .int .i64 c] 3)) := ⟨_, rfl⟩
  have Hm1W : Hid (More w1 W) := HW.out ▸ (More.refl _).alloc _ _
  have Hm : Hid (More w W) := Hm1.out.trans Hm1W.out
  have Hf : Hid (∀ j, j < 3 → W.cell? ⟨w1.heap.size, j, none⟩ = some (.int .i64 (tri a b c j))) := by rw [HW.out]; exact tri_cells (by go_simp) (by go_simp) (by go_simp)
  have Hg' : Hid (∀ j, j < 3 → W.cell? ⟨g, j, none⟩ = some (.int .i64 (tri 0 0 0 j))) := fun j hj => Hm1W.out.cell (Hg.out j hj)
  clear Hg
  replace c0 := Hm1W.out.cell c0
  replace c1 := Hm1W.out.cell c1
  replace d0 := Hm1W.out.cell d0
  replace d1 := Hm1W.out.cell d1
  replace d2 := Hm1W.out.cell d2
  replace d3 := Hm1W.out.cell d3
  replace d4 := Hm1W.out.cell d4
  go_loopg [11] 3 (fun q i wr => ∃ k : Nat, k + q = 3 ∧ i = .int .i64 k ∧ (∀ j, j < k → Fld regs (tri 0 0 0 j) (tri a b c j)) ∧ wr = W)
  case atStart => exact ⟨0, by omega, rfl, fun j hj => by omega, HW.out.symm⟩
  case round =>
    obtain ⟨k, hkg, rfl, hok, rfl⟩ := hrel
    have Hok : Hid (∀ j, j < k → Fld regs (tri 0 0 0 j) (tri a b c j)) := hok
    clear hok
    cases gk with
    | zero =>
      obtain rfl : k = 3 := by omega
      by_cases t0 : 0 ≤ n
      · by_cases t1 : n < (cl : Int)
        · have T : Hid (0 ≤ n ∧ n < (cl : Int)) := ⟨t0, t1⟩
          go_wp2
          go_ret
          exact ⟨_, rfl, ⟨fun _ => HP.out.2 ⟨HN.out, Hok.out, T.out⟩, fun _ => by first | rfl | (simp <;> omega)⟩, Hm.out⟩
        · have T : Hid (¬ n < (cl : Int)) := t1
          go_wp2
          go_ret
          exact ⟨_, rfl, ⟨fun h => by first | (simp at h; done) | (simp at h; omega), fun h => by have h1 := (HP.out.1 h).2.2; have h2 := T.out; have h3 := h1.2; omega⟩, Hm.out⟩
      · have T : Hid (¬ 0 ≤ n) := t0
        go_wp2
        go_ret
        exact ⟨_, rfl, ⟨fun h => by first | (simp at h; done) | (simp at h; omega), fun h => by have h1 := (HP.out.1 h).2.2; have h2 := T.out; have h3 := h1.1; omega⟩, Hm.out⟩
    | succ q =>
      clear d0 d1 d2 d3 d4 c0 c1
      have hk : k < 3 := by omega
      have hk' : (k : Int) < 3 := by omega
      have hk0 : (0 : Int) ≤ (k : Int) := by omega
      have qg := Hg'.out k hk
      have qf := Hf.out k hk
      obtain ⟨x, hx⟩ : ∃ x, tri 0 0 0 k = x := ⟨_, rfl⟩
      obtain ⟨y, hy⟩ : ∃ y, tri a b c k = y := ⟨_, rfl⟩
      rw [hx] at qg
      rw [hy] at qf
      have HX : Hid (tri 0 0 0 k = x ∧ tri a b c k = y) := ⟨hx, hy⟩
      clear hx hy
      have step : Hid (Fld regs x y → ∀ j, j < k + 1 → Fld regs (tri 0 0 0 j) (tri a b c j)) := by
        intro h j hj
        by_cases e : j = k
        · subst e; rw [HX.out.1, HX.out.2]; exact h
        · exact Hok.out j (by omega)
      have back : Hid ((∀ j, j < 3 → Fld regs (tri 0 0 0 j) (tri a b c j)) → Fld regs x y) := by
        intro h
        have := h k hk
        rw [HX.out.1, HX.out.2] at this
        exact this
      by_cases hx0 : x = 0
      · subst hx0
        by_cases hy0 : y = 0
        · subst hy0
          go_wp2
          go_roundg q
          case measure => omega
          case rel => exact ⟨k + 1, by omega, by first | rfl | simp, step.out ⟨fun _ => rfl, fun h => by simp at h⟩, rfl⟩
        · have hy1 : (y != 0) = true := by simp [hy0]
          have Hy : Hid (¬ y = 0) := hy0
          clear hy0
          go_wp2
          go_ret
          exact Says.no (fun h => Hy.out ((back.out (HP.out.1 h).2.1).1 rfl)) Hm.out
      by_cases hx1 : x = 1
      · subst hx1
        clear hx0
        by_cases hy0 : y < 0
        · have Hy : Hid (y < 0) := hy0
          go_wp2
          go_ret
          exact Says.no (fun h => by have := ((back.out (HP.out.1 h).2.1).2 rfl).1; have := Hy.out; omega) Hm.out
        by_cases hy1 : regs ≤ y
        · have Hy : Hid (regs ≤ y) := hy1
          go_wp2
          go_ret
          exact Says.no (fun h => by have := ((back.out (HP.out.1 h).2.1).2 rfl).2; have := Hy.out; omega) Hm.out
        have Hy : Hid (Reg regs y) := ⟨by omega, by omega⟩
        go_wp2
        go_roundg q
        case measure => omega
        case rel => exact ⟨k + 1, by omega, by first | rfl | simp, step.out ⟨fun h => by simp at h, fun _ => Hy.out⟩, rfl⟩
      have Hx : Hid (¬ x = 0 ∧ ¬ x = 1) := ⟨hx0, hx1⟩
      have hx2 : (x == 0) = false := by simp [hx0]
      have hx3 : (x == 1) = false := by simp [hx1]
      clear hx0 hx1
      go_wp2
      go_roundg q
      case measure => omega
      case rel => exact ⟨k + 1, by omega, by first | rfl | simp, step.out ⟨fun h => absurd h Hx.out.1, fun h => absurd h Hx.out.2⟩, rfl⟩
set_option maxRecDepth 8000 in
set_option maxHeartbeats 1000000 in
theorem ins_8 (ra : Option Addr) (rl rc : Nat) (ca : Option Addr) (cl cc : Nat) (a b c n regs : Int) (w : World) (P : Prop) (HP : Hid (P ↔ (True ∧ (∀ j, j < 3 → Fld regs (tri 1 1 2 j) (tri a b c j)) ∧ (1 ≤ c ∧ c ≤ 4) ∧ Plc cl n))) :
    Calls Try.prog 73 #[.agg #[.slice ra rl rc, .slice ca cl cc], .agg #[.int .i64 8, .int .i64 a, .int .i64 b, .int .i64 c, .int .i64 n], .int .i64 regs] w (Says P w) := by
  go_enter Try.func73, Try.ntmps73
  go_wp2_with (fail)
  refine (shape_8 _).mono ?_
  rintro e w1 ⟨g, rfl, hg, m1⟩
  obtain ⟨⟨c0, c1⟩, d0, d1, d2, d3, d4⟩ := boxes2 m1
  have Hg : Hid (∀ j, j < 3 → w1.cell? ⟨g, j, none⟩ = some (.int .i64 (tri 1 1 2 j))) := hg
  have Hm1 : Hid (More w w1) := (((More.refl _).alloc _ _).alloc _ _).trans m1
  clear hg m1
  have HN : Hid True := trivial
  go_wp2
  obtain ⟨W, HW⟩ : ∃ W : World, Hid (W = w1.alloc (.cells #[.int .i64 a, .int .i64 b, .int .i64 c] 3)) := ⟨_, rfl⟩
  have Hm1W : Hid (More w1 W) := HW.out ▸ (More.refl _).alloc _ _
  have Hm : Hid (More w W) := Hm1.out.trans Hm1W.out
  have Hf : Hid (∀ j, j < 3 → W.cell? ⟨w1.heap.size, j, none⟩ = some (.int .i64 (tri a b c j))) := by rw [HW.out]; exact tri_cells (by go_simp) (by go_simp) (by go_simp)
  have Hg' : Hid (∀ j, j < 3 → W.cell? ⟨g, j, none⟩ = some (.int .i64 (tri 1 1 2 j))) := fun j hj => Hm1W.out.cell (Hg.out j hj)
  clear Hg
  replace c0 := Hm1W.out.cell c0
  replace c1 := Hm1W.out.cell c1
  replace d0 := Hm1W.out.cell d0
  replace d1 := Hm1W.out.cell d1
  replace d2 := Hm1W.out.cell d2
  replace d3 := Hm1W.out.cell d3
  replace d4 := Hm1W.out.cell d4
  go_loopg [11] 3 (fun q i wr => ∃ k : Nat, k + q = 3 ∧ i = .int .i64 k ∧ (∀ j, j < k → Fld regs (tri 1 1 2 j) (tri a b c j)) ∧ wr = W)
  case atStart => exact ⟨0, by omega, rfl, fun j hj => by omega, HW.out.symm⟩
  case round =>
    obtain ⟨k, hkg, rfl, hok, rfl⟩ := hrel
    have Hok : Hid (∀ j, j < k → Fld regs (tri 1 1 2 j) (tri a b c j)) := hok
    clear hok
    cases gk with
    | zero =>
      obtain rfl : k = 3 := by omega
      by_cases t0 : 1 ≤ c
      rotate_left
      · have T : Hid (¬ 1 ≤ c) := t0
        go_wp2
        go_ret
        exact ⟨_, rfl, ⟨fun h => by first | (simp at h; done) | (simp at h; omega), fun h => by have h1 := (HP.out.1 h).2.2; have h2 := T.out; have h3 := h1.1.1; omega⟩, Hm.out⟩
      by_cases t1 : c ≤ 4
      rotate_left
      · have T : Hid (¬ c ≤ 4) := t1
        go_wp2
        go_ret
        exact ⟨_, rfl, ⟨fun h => by first | (simp at h; done) | (simp at h; omega), fun h => by have h1 := (HP.out.1 h).2.2; have h2 := T.out; have h3 := h1.1.2; omega⟩, Hm.out⟩
      by_cases t2 : 0 ≤ n
      rotate_left
      · have T : Hid (¬ 0 ≤ n) := t2
        go_wp2
        go_ret
        exact ⟨_, rfl, ⟨fun h => by first | (simp at h; done) | (simp at h; omega), fun h => by have h1 := (HP.out.1 h).2.2; have h2 := T.out; have h3 := h1.2.1; omega⟩, Hm.out⟩
      by_cases t3 : n < (cl : Int)
      rotate_left
      · have T : Hid (¬ n < (cl : Int)) := t3
        go_wp2
        go_ret
        exact ⟨_, rfl, ⟨fun h => by first | (simp at h; done) | (simp at h; omega), fun h => by have h1 := (HP.out.1 h).2.2; have h2 := T.out; have h3 := h1.2.2; omega⟩, Hm.out⟩
      have T : Hid ((1 ≤ c ∧ c ≤ 4) ∧ 0 ≤ n ∧ n < (cl : Int)) := ⟨⟨t0, t1⟩, t2, t3⟩
      go_wp2
      go_ret
      exact ⟨_, rfl, ⟨fun _ => HP.out.2 ⟨HN.out, Hok.out, T.out⟩, fun _ => by first | rfl | (simp <;> omega)⟩, Hm.out⟩
    | succ q =>
      clear d0 d1 d2 d3 d4 c0 c1
      have hk : k < 3 := by omega
      have hk' : (k : Int) < 3 := by omega
      have hk0 : (0 : Int) ≤ (k : Int) := by omega
      have qg := Hg'.out k hk
      have qf := Hf.out k hk
      obtain ⟨x, hx⟩ : ∃ x, tri 1 1 2 k = x := ⟨_, rfl⟩
      obtain ⟨y, hy⟩ : ∃ y, tri a b c k = y := ⟨_, rfl⟩
      rw [hx] at qg
      rw [hy] at qf
      have HX : Hid (tri 1 1 2 k = x ∧ tri a b c k = y) := ⟨hx, hy⟩
      clear hx hy
      have step : Hid (Fld regs x y → ∀ j, j < k + 1 → Fld regs (tri 1 1 2 j) (tri a b c j)) := by
        intro h j hj
        by_cases e : j = k
        · subst e; rw [HX.out.1, HX.out.2]; exact h
        · exact Hok.out j (by omega)
      have back : Hid ((∀ j, j < 3 → Fld regs (tri 1 1 2 j) (tri a b c j)) → Fld regs x y) := by
        intro h
        have := h k hk
        rw [HX.out.1, HX.out.2] at this
        exact this
      by_cases hx0 : x = 0
      · subst hx0
        by_cases hy0 : y = 0
        · subst hy0
          go_wp2
          go_roundg q
          case measure => omega
          case rel => exact ⟨k + 1, by omega, by first | rfl | simp, step.out ⟨fun _ => rfl, fun h => by simp at h⟩, rfl⟩
        · have hy1 : (y != 0) = true := by simp [hy0]
          have Hy : Hid (¬ y = 0) := hy0
          clear hy0
          go_wp2
          go_ret
          exact Says.no (fun h => Hy.out ((back.out (HP.out.1 h).2.1).1 rfl)) Hm.out
      by_cases hx1 : x = 1
      · subst hx1
        clear hx0
        by_cases hy0 : y < 0
        · have Hy : Hid (y < 0) := hy0
          go_wp2
          go_ret
          exact Says.no (fun h => by have := ((back.out (HP.out.1 h).2.1).2 rfl).1; have := Hy.out; omega) Hm.out
        by_cases hy1 : regs ≤ y
        · have Hy : Hid (regs ≤ y) := hy1
          go_wp2
          go_ret
          exact Says.no (fun h => by have := ((back.out (HP.out.1 h).2.1).2 rfl).2; have := Hy.out; omega) Hm.out
        have Hy : Hid (Reg regs y) := ⟨by omega, by omega⟩
        go_wp2
        go_roundg q
        case measure => omega
        case rel => exact ⟨k + 1, by omega, by first | rfl | simp, step.out ⟨fun h => by simp at h, fun _ => Hy.out⟩, rfl⟩
      have Hx : Hid (¬ x = 0 ∧ ¬ x = 1) := ⟨hx0, hx1⟩
      have hx2 : (x == 0) = false := by simp [hx0]
      have hx3 : (x == 1) = false := by simp [hx1]
      clear hx0 hx1
      go_wp2
      go_roundg q
      case measure => omega
      case rel => exact ⟨k + 1, by omega, by first | rfl | simp, step.out ⟨fun h => absurd h Hx.out.1, fun h => absurd h Hx.out.2⟩, rfl⟩

set_option maxRecDepth 8000 in
set_option maxHeartbeats 1000000 in
theorem ins_10 (ra : Option Addr) (rl rc : Nat) (ca : Option Addr) (cl cc : Nat) (a b c n regs : Int) (w : World) (P : Prop) (HP : Hid (P ↔ (True ∧ (∀ j, j < 3 → Fld regs (tri 1 1 0 j) (tri a b c j)) ∧ True))) :
    Calls Try.prog 73 #[.agg #[.slice ra rl rc, .slice ca cl cc], .agg #[.int .i64 10, .int .i64 a, .int .i64 b, .int .i64 c, .int .i64 n], .int .i64 regs] w (Says P w) := by
  go_enter Try.func73, Try.ntmps73
  go_wp2_with (fail)
  refine (shape_10 _).mono ?_
  rintro e w1 ⟨g, rfl, hg, m1⟩
  obtain ⟨⟨c0, c1⟩, d0, d1, d2, d3, d4⟩ := boxes2 m1
  have Hg : Hid (∀ j, j < 3 → w1.cell? ⟨g, j, none⟩ = some (.int .i64 (tri 1 1 0 j))) := hg
  have Hm1 : Hid (More w w1) := (((More.refl _).alloc _ _).alloc _ _).trans m1
  clear hg m1
  have HN : Hid True := trivial
  go_wp2
  obtain ⟨W, HW⟩ : ∃ W : World, Hid (W = w1.alloc (.cells #[.int .i64 a, .int .i64 b, .int .i64 c] 3)) := ⟨_, rfl⟩
  have Hm1W : Hid (More w1 W) := HW.out ▸ (More.refl _).alloc _ _
  have Hm : Hid (More w W) := Hm1.out.trans Hm1W.out
  have Hf : Hid (∀ j, j < 3 → W.cell? ⟨w1.heap.size, j, none⟩ = some (.int .i64 (tri a b c j))) := by rw [HW.out]; exact tri_cells (by go_simp) (by go_simp) (by go_simp)
  have Hg' : Hid (∀ j, j < 3 → W.cell? ⟨g, j, none⟩ = some (.int .i64 (tri 1 1 0 j))) := fun j hj => Hm1W.out.cell (Hg.out j hj)
  clear Hg
  replace c0 := Hm1W.out.cell c0
  replace c1 := Hm1W.out.cell c1
  replace d0 := Hm1W.out.cell d0
  replace d1 := Hm1W.out.cell d1
  replace d2 := Hm1W.out.cell d2
  replace d3 := Hm1W.out.cell d3
  replace d4 := Hm1W.out.cell d4
  go_loopg [11] 3 (fun q i wr => ∃ k : Nat, k + q = 3 ∧ i = .int .i64 k ∧ (∀ j, j < k → Fld regs (tri 1 1 0 j) (tri a b c j)) ∧ wr = W)
  case atStart => exact ⟨0, by omega, rfl, fun j hj => by omega, HW.out.symm⟩
  case round =>
    obtain ⟨k, hkg, rfl, hok, rfl⟩ := hrel
    have Hok : Hid (∀ j, j < k → Fld regs (tri 1 1 0 j) (tri a b c j)) := hok
    clear hok
    cases gk with
    | zero =>
      obtain rfl : k = 3 := by omega
      go_wp2
      go_ret
      exact Says.yes (HP.out.2 ⟨HN.out, Hok.out, trivial⟩) Hm.out
    | succ q =>
      clear d0 d1 d2 d3 d4 c0 c1
      have hk : k < 3 := by omega
      have hk' : (k : Int) < 3 := by omega
      have hk0 : (0 : Int) ≤ (k : Int) := by omega
      have qg := Hg'.out k hk
      have qf := Hf.out k hk
      obtain ⟨x, hx⟩ : ∃ x, tri 1 1 0 k = x := ⟨_, rfl⟩
      obtain ⟨y, hy⟩ : ∃ y, tri a b c k = y := ⟨_, rfl⟩
      rw [hx] at qg
      rw [hy] at qf
      have HX : Hid (tri 1 1 0 k = x ∧ tri a b c k = y) := ⟨hx, hy⟩
      clear hx hy
      have step : Hid (Fld regs x y → ∀ j, j < k + 1 → Fld regs (tri 1 1 0 j) (tri a b c j)) := by
        intro h j hj
        by_cases e : j = k
        · subst e; rw [HX.out.1, HX.out.2]; exact h
        · exact Hok.out j (by omega)
      have back : Hid ((∀ j, j < 3 → Fld regs (tri 1 1 0 j) (tri a b c j)) → Fld regs x y) := by
        intro h
        have := h k hk
        rw [HX.out.1, HX.out.2] at this
        exact this
      by_cases hx0 : x = 0
      · subst hx0
        by_cases hy0 : y = 0
        · subst hy0
          go_wp2
          go_roundg q
          case measure => omega
          case rel => exact ⟨k + 1, by omega, by first | rfl | simp, step.out ⟨fun _ => rfl, fun h => by simp at h⟩, rfl⟩
        · have hy1 : (y != 0) = true := by simp [hy0]
          have Hy : Hid (¬ y = 0) := hy0
          clear hy0
          go_wp2
          go_ret
          exact Says.no (fun h => Hy.out ((back.out (HP.out.1 h).2.1).1 rfl)) Hm.out
      by_cases hx1 : x = 1
      · subst hx1
        clear hx0
        by_cases hy0 : y < 0
        · have Hy : Hid (y < 0) := hy0
          go_wp2
          go_ret
          exact Says.no (fun h => by have := ((back.out (HP.out.1 h).2.1).2 rfl).1; have := Hy.out; omega) Hm.out
        by_cases hy1 : regs ≤ y
        · have Hy : Hid (regs ≤ y) := hy1
          go_wp2
          go_ret
          exact Says.no (fun h => by have := ((back.out (HP.out.1 h).2.1).2 rfl).2; have := Hy.out; omega) Hm.out
        have Hy : Hid (Reg regs y) := ⟨by omega, by omega⟩
        go_wp2
        go_roundg q
        case measure => omega
        case rel => exact ⟨k + 1, by omega, by first | rfl | simp, step.out ⟨fun h => by simp at h, fun _ => Hy.out⟩, rfl⟩
      have Hx : Hid (¬ x = 0 ∧ ¬ x = 1) := ⟨hx0, hx1⟩
      have hx2 : (x == 0) = false := by simp [hx0]
      have hx3 : (x == 1) = false := by simp [hx1]
      clear hx0 hx1
      go_wp2
      go_roundg q
      case measure => omega
      case rel => exact ⟨k + 1, by omega, by first | rfl | simp, step.out ⟨fun h => absurd h Hx.out.1, fun h => absurd h Hx.out.2⟩, rfl⟩

set_option maxRecDepth 8000 in
set_option maxHeartbeats 1000000 in
theorem ins_11 (ra : Option Addr) (rl rc : Nat) (ca : Option Addr) (cl cc : Nat) (a b c n regs : Int) (w : World) (P : Prop) (HP : Hid (P ↔ (True ∧ (∀ j, j < 3 → Fld regs (tri 1 0 0 j) (tri a b c j)) ∧ 1 ≤ n ∧ n ≤ 64))) :
    Calls Try.prog 73 #[.agg #[.slice ra rl rc, .slice ca cl cc], .agg #[.int .i64 11, .int .i64 a, .int .i64 b, .int .i64 c, .int .i64 n], .int .i64 regs] w (Says P w) := by
  go_enter Try.func73, Try.ntmps73
  go_wp2_with (fail)
  refine (shape_11 _).mono ?_
  rintro e w1 ⟨g, rfl, hg, m1⟩
  obtain ⟨⟨c0, c1⟩, d0, d1, d2, d3, d4⟩ := boxes2 m1
  have Hg : Hid (∀ j, j < 3 → w1.cell? ⟨g, j, none⟩ = some (.int .i64 (tri 1 0 0 j))) := hg
  have Hm1 : Hid (More w w1) := (((More.refl _).alloc _ _).alloc _ _).trans m1
  clear hg m1
  have HN : Hid True := trivial
  go_wp2
  obtain ⟨W, HW⟩ : ∃ W : World, Hid (W = w1.alloc (.cells #[.int .i64 a, .int .i64 b, .int .i64 c] 3)) := ⟨_, rfl⟩
  have Hm1W : Hid (More w1 W) := HW.out ▸ (More.refl _).alloc _ _
  have Hm : Hid (More w W) := Hm1.out.trans Hm1W.out
  have Hf : Hid (∀ j, j < 3 → W.cell? ⟨w1.heap.size, j, none⟩ = some (.int .i64 (tri a b c j))) := by rw [HW.out]; exact tri_cells (by go_simp) (by go_simp) (by go_simp)
  have Hg' : Hid (∀ j, j < 3 → W.cell? ⟨g, j, none⟩ = some (.int .i64 (tri 1 0 0 j))) := fun j hj => Hm1W.out.cell (Hg.out j hj)
  clear Hg
  replace c0 := Hm1W.out.cell c0
  replace c1 := Hm1W.out.cell c1
  replace d0 := Hm1W.out.cell d0
  replace d1 := Hm1W.out.cell d1
  replace d2 := Hm1W.out.cell d2
  replace d3 := Hm1W.out.cell d3
  replace d4 := Hm1W.out.cell d4
  go_loopg [11] 3 (fun q i wr => ∃ k : Nat, k + q = 3 ∧ i = .int .i64 k ∧ (∀ j, j < k → Fld regs (tri 1 0 0 j) (tri a b c j)) ∧ wr = W)
  case atStart => exact ⟨0, by omega, rfl, fun j hj => by omega, HW.out.symm⟩
  case round =>
    obtain ⟨k, hkg, rfl, hok, rfl⟩ := hrel
    have Hok : Hid (∀ j, j < k → Fld regs (tri 1 0 0 j) (tri a b c j)) := hok
    clear hok
    cases gk with
    | zero =>
      obtain rfl : k = 3 := by omega
      by_cases t0 : 1 ≤ n
      · by_cases t1 : n ≤ 64
        · have T : Hid (1 ≤ n ∧ n ≤ 64) := ⟨t0, t1⟩
          go_wp2
          go_ret
          exact ⟨_, rfl, ⟨fun _ => HP.out.2 ⟨HN.out, Hok.out, T.out⟩, fun _ => by first | rfl | (simp <;> omega)⟩, Hm.out⟩
        · have T : Hid (¬ n ≤ 64) := t1
          go_wp2
          go_ret
          exact ⟨_, rfl, ⟨fun h => by first | (simp at h; done) | (simp at h; omega), fun h => by have h1 := (HP.out.1 h).2.2; have h2 := T.out; have h3 := h1.2; omega⟩, Hm.out⟩
      · have T : Hid (¬ 1 ≤ n) := t0
        go_wp2
        go_ret
        exact ⟨_, rfl, ⟨fun h => by first | (simp at h; done) | (simp at h; omega), fun h => by have h1 := (HP.out.1 h).2.2; have h2 := T.out; have h3 := h1.1; omega⟩, Hm.out⟩
    | succ q =>
      clear d0 d1 d2 d3 d4 c0 c1
      have hk : k < 3 := by omega
      have hk' : (k : Int) < 3 := by omega
      have hk0 : (0 : Int) ≤ (k : Int) := by omega
      have qg := Hg'.out k hk
      have qf := Hf.out k hk
      obtain ⟨x, hx⟩ : ∃ x, tri 1 0 0 k = x := ⟨_, rfl⟩
      obtain ⟨y, hy⟩ : ∃ y, tri a b c k = y := ⟨_, rfl⟩
      rw [hx] at qg
      rw [hy] at qf
      have HX : Hid (tri 1 0 0 k = x ∧ tri a b c k = y) := ⟨hx, hy⟩
      clear hx hy
      have step : Hid (Fld regs x y → ∀ j, j < k + 1 → Fld regs (tri 1 0 0 j) (tri a b c j)) := by
        intro h j hj
        by_cases e : j = k
        · subst e; rw [HX.out.1, HX.out.2]; exact h
        · exact Hok.out j (by omega)
      have back : Hid ((∀ j, j < 3 → Fld regs (tri 1 0 0 j) (tri a b c j)) → Fld regs x y) := by
        intro h
        have := h k hk
        rw [HX.out.1, HX.out.2] at this
        exact this
      by_cases hx0 : x = 0
      · subst hx0
        by_cases hy0 : y = 0
        · subst hy0
          go_wp2
          go_roundg q
          case measure => omega
          case rel => exact ⟨k + 1, by omega, by first | rfl | simp, step.out ⟨fun _ => rfl, fun h => by simp at h⟩, rfl⟩
        · have hy1 : (y != 0) = true := by simp [hy0]
          have Hy : Hid (¬ y = 0) := hy0
          clear hy0
          go_wp2
          go_ret
          exact Says.no (fun h => Hy.out ((back.out (HP.out.1 h).2.1).1 rfl)) Hm.out
      by_cases hx1 : x = 1
      · subst hx1
        clear hx0
        by_cases hy0 : y < 0
        · have Hy : Hid (y < 0) := hy0
          go_wp2
          go_ret
          exact Says.no (fun h => by have := ((back.out (HP.out.1 h).2.1).2 rfl).1; have := Hy.out; omega) Hm.out
        by_cases hy1 : regs ≤ y
        · have Hy : Hid (regs ≤ y) := hy1
          go_wp2
          go_ret
          exact Says.no (fun h => by have := ((back.out (HP.out.1 h).2.1).2 rfl).2; have := Hy.out; omega) Hm.out
        have Hy : Hid (Reg regs y) := ⟨by omega, by omega⟩
        go_wp2
        go_roundg q
        case measure => omega
        case rel => exact ⟨k + 1, by omega, by first | rfl | simp, step.out ⟨fun h => by simp at h, fun _ => Hy.out⟩, rfl⟩
      have Hx : Hid (¬ x = 0 ∧ ¬ x = 1) := ⟨hx0, hx1⟩
      have hx2 : (x == 0) = false := by simp [hx0]
      have hx3 : (x == 1) = false := by simp [hx1]
      clear hx0 hx1
      go_wp2
      go_roundg q
      case measure => omega
      case rel => exact ⟨k + 1, by omega, by first | rfl | simp, step.out ⟨fun h => absurd h Hx.out.1, fun h => absurd h Hx.out.2⟩, rfl⟩

set_option maxRecDepth 8000 in
set_option maxHeartbeats 1000000 in
theorem ins_op (ra : Option Addr) (rl rc : Nat) (ca : Option Addr) (cl cc : Nat) (op : Int) (o1 : 20 < op) (o2 : op ≤ 30) (a b c n regs : Int) (w : World) (P : Prop) (HP : Hid (P ↔ (n = 0 ∧ (∀ j, j < 3 → Fld regs (tri 1 1 1 j) (tri a b c j)) ∧ True))) :
    Calls Try.prog 73 #[.agg #[.slice ra rl rc, .slice ca cl cc], .agg #[.int .i64 op, .int .i64 a, .int .i64 b, .int .i64 c, .int .i64 n], .int .i64 regs] w (Says P w) := by
  go_enter Try.func73, Try.ntmps73
  go_wp2_with (fail)
  refine (shape_op op o1 o2 _).mono ?_
  rintro e w1 ⟨g, rfl, hg, m1⟩
  obtain ⟨⟨c0, c1⟩, d0, d1, d2, d3, d4⟩ := boxes2 m1
  have Hg : Hid (∀ j, j < 3 → w1.cell? ⟨g, j, none⟩ = some (.int .i64 (tri 1 1 1 j))) := hg
  have Hm1 : Hid (More w w1) := (((More.refl _).alloc _ _).alloc _ _).trans m1
  clear hg m1
  by_cases hn0 : n = 0
  rotate_left
  · have HN : Hid (¬ n = 0) := hn0
    have hn1 : (n != 0) = true := by simp [hn0]
    clear hn0
    go_wp2
    go_ret
    exact Says.no (fun h => HN.out (HP.out.1 h).1) Hm1.out
  have HN : Hid (n = 0) := hn0
  have hn1 : (n != 0) = false := by simp [hn0]
  clear hn0
  go_wp2
  obtain ⟨W, HW⟩ : ∃ W : World, Hid (W = w1.alloc (.cells #[.int .i64 a, .int .i64 b, .int .i64 c] 3)) := ⟨_, rfl⟩
  have Hm1W : Hid (More w1 W) := HW.out ▸ (More.refl _).alloc _ _
  have Hm : Hid (More w W) := Hm1.out.trans Hm1W.out
  have Hf : Hid (∀ j, j < 3 → W.cell? ⟨w1.heap.size, j, none⟩ = some (.int .i64 (tri a b c j))) := by rw [HW.out]; exact tri_cells (by go_simp) (by go_simp) (by go_simp)
  have Hg' : Hid (∀ j, j < 3 → W.cell? ⟨g, j, none⟩ = some (.int .i64 (tri 1 1 1 j))) := fun j hj => Hm1W.out.cell (Hg.out j hj)
  clear Hg
  replace c0 := Hm1W.out.cell c0
  replace c1 := Hm1W.out.cell c1
  replace d0 := Hm1W.out.cell d0
  replace d1 := Hm1W.out.cell d1
  replace d2 := Hm1W.out.cell d2
  replace d3 := Hm1W.out.cell d3
  replace d4 := Hm1W.out.cell d4
  go_loopg [11] 3 (fun q i wr => ∃ k : Nat, k + q = 3 ∧ i = .int .i64 k ∧ (∀ j, j < k → Fld regs (tri 1 1 1 j) (tri a b c j)) ∧ wr = W)
  case atStart => exact ⟨0, by omega, rfl, fun j hj => by omega, HW.out.symm⟩
  case round =>
    obtain ⟨k, hkg, rfl, hok, rfl⟩ := hrel
    have Hok : Hid (∀ j, j < k → Fld regs (tri 1 1 1 j) (tri a b c j)) := hok
    clear hok
    cases gk with
    | zero =>
      obtain rfl : k = 3 := by omega
      go_wp2
      go_ret
      exact Says.yes (HP.out.2 ⟨HN.out, Hok.out, trivial⟩) Hm.out
    | succ q =>
      clear d0 d1 d2 d3 d4 c0 c1
      have hk : k < 3 := by omega
      have hk' : (k : Int) < 3 := by omega
      have hk0 : (0 : Int) ≤ (k : Int) := by omega
      have qg := Hg'.out k hk
      have qf := Hf.out k hk
      obtain ⟨x, hx⟩ : ∃ x, tri 1 1 1 k = x := ⟨_, rfl⟩
      obtain ⟨y, hy⟩ : ∃ y, tri a b c k = y := ⟨_, rfl⟩
      rw [hx] at qg
      rw [hy] at qf
      have HX : Hid (tri 1 1 1 k = x ∧ tri a b c k = y) := ⟨hx, hy⟩
      clear hx hy
      have step : Hid (Fld regs x y → ∀ j, j < k + 1 → Fld regs (tri 1 1 1 j) (tri a b c j)) := by
        intro h j hj
        by_cases e : j = k
        · subst e; rw [HX.out.1, HX.out.2]; exact h
        · exact Hok.out j (by omega)
      have back : Hid ((∀ j, j < 3 → Fld regs (tri 1 1 1 j) (tri a b c j)) → Fld regs x y) := by
        intro h
        have := h k hk
        rw [HX.out.1, HX.out.2] at this
        exact this
      by_cases hx0 : x = 0
      · subst hx0
        by_cases hy0 : y = 0
        · subst hy0
          go_wp2
          go_roundg q
          case measure => omega
          case rel => exact ⟨k + 1, by omega, by first | rfl | simp, step.out ⟨fun _ => rfl, fun h => by simp at h⟩, rfl⟩
        · have hy1 : (y != 0) = true := by simp [hy0]
          have Hy : Hid (¬ y = 0) := hy0
          clear hy0
          go_wp2
          go_ret
          exact Says.no (fun h => Hy.out ((back.out (HP.out.1 h).2.1).1 rfl)) Hm.out
      by_cases hx1 : x = 1
      · subst hx1
        clear hx0
        by_cases hy0 : y < 0
        · have Hy : Hid (y < 0) := hy0
          go_wp2
          go_ret
          exact Says.no (fun h => by have := ((back.out (HP.out.1 h).2.1).2 rfl).1; have := Hy.out; omega) Hm.out
        by_cases hy1 : regs ≤ y
        · have Hy : Hid (regs ≤ y) := hy1
          go_wp2
          go_ret
          exact Says.no (fun h => by have := ((back.out (HP.out.1 h).2.1).2 rfl).2; have := Hy.out; omega) Hm.out
        have Hy : Hid (Reg regs y) := ⟨by omega, by omega⟩
        go_wp2
        go_roundg q
        case measure => omega
        case rel => exact ⟨k + 1, by omega, by first | rfl | simp, step.out ⟨fun h => by simp at h, fun _ => Hy.out⟩, rfl⟩
      have Hx : Hid (¬ x = 0 ∧ ¬ x = 1) := ⟨hx0, hx1⟩
      have hx2 : (x == 0) = false := by simp [hx0]
      have hx3 : (x == 1) = false := by simp [hx1]
      clear hx0 hx1
      go_wp2
      go_roundg q
      case measure => omega
      case rel => exact ⟨k + 1, by omega, by first | rfl | simp, step.out ⟨fun h => absurd h Hx.out.1, fun h => absurd h Hx.out.2⟩, rfl⟩
end
section
open Go.RowKit
set_option linter.unusedSimpArgs false
theorem tri_all (regs x y z a b c : Int) : (∀ j, j < 3 → Fld regs (tri x y z j) (tri a b c j)) ↔ Fld regs x a ∧ Fld regs y b ∧ Fld regs z c := by
  constructor
  · intro h
    exact ⟨h 0 (by omega), h 1 (by omega), h 2 (by omega)⟩
  · rintro ⟨h0, h1, h2⟩ j hj
    have : j = 0 ∨ j = 1 ∨ j = 2 := by omega
    rcases this with rfl | rfl | rfl
    · exact h0
    · exact h1
    · exact h2
theorem fld0 (regs f : Int) : Fld regs 0 f ↔ f = 0 := by unfold Fld; simp
theorem fld1 (regs f : Int) : Fld regs 1 f ↔ Reg regs f := by unfold Fld; simp
theorem fld2 (regs f : Int) : Fld regs 2 f ↔ True := by unfold Fld; simp

set_option maxRecDepth 8000 in
theorem ins_else (ra : Option Addr) (rl rc : Nat) (ca : Option Addr) (cl cc : Nat) (op a b c n regs : Int) (h1 : ¬ op = 1) (h2 : ¬ op = 2) (h3 : ¬ op = 3) (h4 : ¬ op = 4) (h5 : ¬ op = 5) (h6 : ¬ op = 6) (h7 : ¬ op = 7) (h8 : ¬ op = 8) (h9 : ¬ op = 9) (h10 : ¬ op = 10) (h11 : ¬ op = 11) (h12 : ¬ op = 12) (h : ¬ (20 < op ∧ op ≤ 30)) (w : World) :
    Calls Try.prog 73 #[.agg #[.slice ra rl rc, .slice ca cl cc], .agg #[.int .i64 op, .int .i64 a, .int .i64 b, .int .i64 c, .int .i64 n], .int .i64 regs] w fun e w' => e = .returned (.bool false) ∧ More w w' := by
  have Hs : Hid (∀ w : World, Calls Try.prog 82 #[.int .i64 op] w fun e w' => e = .returned (.tuple #[.slice none 0 0, .bool false, .bool false]) ∧ w' = w) := fun w => shape_else op h1 h2 h3 h4 h5 h6 h7 h8 h9 h10 h11 h12 h w
  clear h1 h2 h3 h4 h5 h6 h7 h8 h9 h10 h11 h12 h
  go_enter Try.func73, Try.ntmps73
  go_wp2_with (fail)
  refine (Hs.out _).mono ?_
  rintro e w1 ⟨rfl, rfl⟩
  go_wp2
  go_ret
  exact ⟨rfl, ((More.refl _).alloc _ _).alloc _ _⟩

theorem ref_ins (ra : Option Addr) (rl rc : Nat) (ca : Option Addr) (cl cc : Nat) (op a b c n regs : Int) (w : World) (rb ro : Nat) (log : Nat → Int) (sec : Nat → Bool) (hra : 0 < rl → ra = some ⟨rb, ro, none⟩) (hr : RegsAt w rb ro rl log sec) (hok : RegionsOk rl log) :
    Calls Try.prog 73 #[.agg #[.slice ra rl rc, .slice ca cl cc], .agg #[.int .i64 op, .int .i64 a, .int .i64 b, .int .i64 c, .int .i64 n], .int .i64 regs] w (Says (InsOk rl log cl regs ⟨op, a, b, c, n⟩) w) := by
  by_cases h1 : op = 1
  · subst h1
    refine ins_1 ra rl rc ca cl cc a b c n regs w _ ?_
    show _ ↔ _
    rw [tri_all]; simp only [fld0, fld1, fld2]
    unfold InsOk
    simp [and_assoc, and_comm, and_left_comm]
  by_cases h2 : op = 2
  · subst h2
    refine ins_2 ra rl rc ca cl cc a b c n regs w _ ?_
    show _ ↔ _
    rw [tri_all]; simp only [fld0, fld1, fld2]
    unfold InsOk
    simp [and_assoc, and_comm, and_left_comm]
  by_cases h3 : op = 3
  · subst h3
    refine ins_3 ra rl rc ca cl cc a b c n regs w _ ?_
    show _ ↔ _
    rw [tri_all]; simp only [fld0, fld1, fld2]
    unfold InsOk
    simp [and_assoc, and_comm, and_left_comm]
  by_cases h4 : op = 4
  · subst h4
    refine ins_4 ra rl rc ca cl cc a b c n regs w _ ?_
    show _ ↔ _
    rw [tri_all]; simp only [fld0, fld1, fld2]
    unfold InsOk
    simp [and_assoc, and_comm, and_left_comm]
  by_cases h5 : op = 5
  · subst h5
    refine ins_5 ra rl rc ca cl cc a b c n regs w rb ro log sec hra hr hok _ ?_
    show _ ↔ _
    rw [tri_all]; simp only [fld0, fld1, fld2]
    unfold InsOk
    simp [and_assoc, and_comm, and_left_comm]
  by_cases h6 : op = 6
  · subst h6
    refine ins_6 ra rl rc ca cl cc a b c n regs w rb ro log sec hra hr hok _ ?_
    show _ ↔ _
    rw [tri_all]; simp only [fld0, fld1, fld2]
    unfold InsOk
    simp [and_assoc, and_comm, and_left_comm]
  by_cases h7 : op = 7
  · subst h7
    refine ins_7 ra rl rc ca cl cc a b c n regs w _ ?_
    show _ ↔ _
    rw [tri_all]; simp only [fld0, fld1, fld2]
    unfold InsOk
    simp [and_assoc, and_comm, and_left_comm]
  by_cases h8 : op = 8
  · subst h8
    refine ins_8 ra rl rc ca cl cc a b c n regs w _ ?_
    show _ ↔ _
    rw [tri_all]; simp only [fld0, fld1, fld2]
    unfold InsOk
    simp [and_assoc, and_comm, and_left_comm]
  by_cases h9 : op = 9
  · subst h9
    refine ins_9 ra rl rc ca cl cc a b c n regs w _ ?_
    show _ ↔ _
    rw [tri_all]; simp only [fld0, fld1, fld2]
    unfold InsOk
    simp [and_assoc, and_comm, and_left_comm]
  by_cases h10 : op = 10
  · subst h10
    refine ins_10 ra rl rc ca cl cc a b c n regs w _ ?_
    show _ ↔ _
    rw [tri_all]; simp only [fld0, fld1, fld2]
    unfold InsOk
    simp [and_assoc, and_comm, and_left_comm]
  by_cases h11 : op = 11
  · subst h11
    refine ins_11 ra rl rc ca cl cc a b c n regs w _ ?_
    show _ ↔ _
    rw [tri_all]; simp only [fld0, fld1, fld2]
    unfold InsOk
    simp [and_assoc, and_comm, and_left_comm]
  by_cases h12 : op = 12
  · subst h12
    refine ins_12 ra rl rc ca cl cc a b c n regs w _ ?_
    show _ ↔ _
    rw [tri_all]; simp only [fld0, fld1, fld2]
    unfold InsOk
    simp [and_assoc, and_comm, and_left_comm]
  by_cases ho : 20 < op ∧ op ≤ 30
  · refine ins_op ra rl rc ca cl cc op ho.1 ho.2 a b c n regs w _ ?_
    show _ ↔ _
    rw [tri_all]; simp only [fld1]
    unfold InsOk
    rw [if_neg h1, if_neg h2, if_neg h3, if_neg h4, if_neg h5, if_neg h6, if_neg h7, if_neg h8, if_neg h9, if_neg h10, if_neg h11, if_neg h12]
    constructor
    · exact fun h => ⟨h.2.2.2.2, ⟨h.2.1, h.2.2.1, h.2.2.2.1⟩, trivial⟩
    · exact fun h => ⟨⟨by have := ho.1; show (21 : Int) ≤ op; omega, ho.2⟩, h.2.1.1, h.2.1.2.1, h.2.1.2.2, h.1⟩
  refine (ins_else ra rl rc ca cl cc op a b c n regs h1 h2 h3 h4 h5 h6 h7 h8 h9 h10 h11 h12 ho w).mono ?_
  rintro e w' ⟨rfl, m⟩
  refine Says.no (fun h => ?_) m
  unfold InsOk at h
  rw [if_neg h1, if_neg h2, if_neg h3, if_neg h4, if_neg h5, if_neg h6, if_neg h7, if_neg h8, if_neg h9, if_neg h10, if_neg h11, if_neg h12] at h
  exact ho ⟨by have := h.1.1; dsimp only at this; omega, h.1.2⟩

set_option maxHeartbeats 1000000 in
theorem ref_is (ra : Option Addr) (rl rc : Nat) (ca : Option Addr) (cl cc : Nat) (code regs : Int) (rb ro cb co : Nat) (log : Nat → Int) (sec : Nat → Bool) (ins : Nat → Ins) (w : World) (most : Nat) (hcode : code = most) (hmost : most ≤ 8000)
    (hra : 0 < rl → ra = some ⟨rb, ro, none⟩) (hr : RegsAt w rb ro rl log sec) (hca : 0 < cl → ca = some ⟨cb, co, none⟩) (hc : CodeAt w cb co cl ins) :
    Calls Try.prog 63 #[.agg #[.slice ra rl rc, .slice ca cl cc], .int .i64 code, .int .i64 regs] w (Says (RegionsOk rl log ∧ CodeOk rl log cl ins most regs) w) := by
  have Hcd : Hid (code = most ∧ most ≤ 8000) := ⟨hcode, hmost⟩
  have Hr : Hid ((0 < rl → ra = some ⟨rb, ro, none⟩) ∧ RegsAt w rb ro rl log sec) := ⟨hra, hr⟩
  have Hc : Hid ((0 < cl → ca = some ⟨cb, co, none⟩) ∧ CodeAt w cb co cl ins) := ⟨hca, hc⟩
  obtain ⟨Pr, HP⟩ : ∃ Pr : Prop, Hid (Pr ↔ (RegionsOk rl log ∧ CodeOk rl log cl ins most regs)) := ⟨_, Iff.rfl⟩
  rw [← propext HP.out]
  clear hcode hmost hra hr hca hc
  go_enter Try.func63, Try.ntmps63
  go_wp2_with (fail)
  refine (ref_regions ra rl rc ca cl cc rb ro log sec _ Hr.out.1 (Hr.out.2.more ((More.refl _).alloc _ _))).mono ?_
  rintro e w1 ⟨r, rfl, h, m1⟩
  have e0 : w1.cell? ⟨w.heap.size, 0, none⟩ = some (.slice ra rl rc) := m1.cell (by go_simp)
  have e1 : w1.cell? ⟨w.heap.size, 1, none⟩ = some (.slice ca cl cc) := m1.cell (by go_simp)
  have Hm1 : Hid (More w w1) := ((More.refl _).alloc _ _).trans m1
  clear m1
  cases r with
  | false =>
    have HA : Hid (¬ RegionsOk rl log) := fun k => by simpa using h.2 k
    clear h
    go_wp2
    go_ret
    exact Says.no (fun h => HA.out (HP.out.1 h).1) Hm1.out
  | true =>
    have HA : Hid (RegionsOk rl log) := h.1 rfl
    clear h
    by_cases h1 : (cl : Int) < 1
    · have T : Hid ((cl : Int) < 1) := h1
      go_wp2
      go_ret
      exact Says.no (fun h => by have := (HP.out.1 h).2.1; have := T.out; omega) Hm1.out
    by_cases h2 : code < (cl : Int)
    · have T : Hid (code < (cl : Int)) := h2
      go_wp2
      go_ret
      exact Says.no (fun h => by have := (HP.out.1 h).2.2.1; have := Hcd.out.1; have := T.out; omega) Hm1.out
    have Hl : Hid (1 ≤ cl ∧ cl ≤ most) := ⟨by omega, by have := Hcd.out.1; omega⟩
    have He : Hid (w1.cell? ⟨w.heap.size, 0, none⟩ = some (.slice ra rl rc) ∧ w1.cell? ⟨w.heap.size, 1, none⟩ = some (.slice ca cl cc)) := ⟨e0, e1⟩
    go_wp2
    clear e0 e1
    go_loopg [7] cl (fun g i wr => ∃ k : Nat, k + g = cl ∧ i = .int .i64 k ∧ (∀ j, j < k → InsOk rl log cl regs (ins j)) ∧ More w wr ∧ wr.cell? ⟨w.heap.size, 0, none⟩ = some (.slice ra rl rc) ∧ wr.cell? ⟨w.heap.size, 1, none⟩ = some (.slice ca cl cc))
    case atStart => exact ⟨0, by omega, rfl, fun j hj => by omega, Hm1.out, He.out.1, He.out.2⟩
    case round =>
      obtain ⟨k, hkg, rfl, hin, m, e0, e1⟩ := hrel
      have Hm : Hid (More w wr ∧ ∀ j, j < k → InsOk rl log cl regs (ins j)) := ⟨m, hin⟩
      clear m hin
      cases gk with
      | zero =>
        obtain rfl : k = cl := by omega
        go_wp2
        go_ret
        exact Says.yes (HP.out.2 ⟨HA.out, Hl.out.1, Hl.out.2, Hm.out.2⟩) Hm.out.1
      | succ g =>
        have hk : k < cl := by omega
        have hk' : (k : Int) < (cl : Int) := by omega
        have hk0 : (0 : Int) ≤ (k : Int) := by omega
        obtain rfl := Hc.out.1 (by omega)
        have hcell := (Hc.out.2.more Hm.out.1) k hk
        cases hI : ins k with
        | mk op a b c n =>
        rw [hI] at hcell
        have HI : Hid (ins k = ⟨op, a, b, c, n⟩) := hI
        clear hI
        obtain ⟨q0, q1, q2, q3, q4⟩ := hcell
        obtain ⟨S, HS⟩ : ∃ S : World → Prop, Hid (∀ w', S w' ↔ More wr w') := ⟨fun w' => More wr w', fun _ => Iff.rfl⟩
        have k0 : ∀ i : { w' // S w' }, i.val.cell? ⟨w.heap.size, 0, none⟩ = some (.slice ra rl rc) := fun i => ((HS.out _).1 i.property).cell e0
        have k1 : ∀ i : { w' // S w' }, i.val.cell? ⟨w.heap.size, 1, none⟩ = some (.slice (some ⟨cb, co, none⟩) cl cc) := fun i => ((HS.out _).1 i.property).cell e1
        have d0 : ∀ i : { w' // S w' }, i.val.cell? ⟨cb, co + k * 5, none⟩ = some (.int .i64 op) := fun i => ((HS.out _).1 i.property).cell q0
        have d1 : ∀ i : { w' // S w' }, i.val.cell? ⟨cb, co + k * 5 + 1, none⟩ = some (.int .i64 a) := fun i => ((HS.out _).1 i.property).cell q1
        have d2 : ∀ i : { w' // S w' }, i.val.cell? ⟨cb, co + k * 5 + 2, none⟩ = some (.int .i64 b) := fun i => ((HS.out _).1 i.property).cell q2
        have d3 : ∀ i : { w' // S w' }, i.val.cell? ⟨cb, co + k * 5 + 3, none⟩ = some (.int .i64 c) := fun i => ((HS.out _).1 i.property).cell q3
        have d4 : ∀ i : { w' // S w' }, i.val.cell? ⟨cb, co + k * 5 + 4, none⟩ = some (.int .i64 n) := fun i => ((HS.out _).1 i.property).cell q4
        have hne : Nonempty { w' // S w' } := ⟨⟨wr, (HS.out _).2 (More.refl _)⟩⟩
        go_wp2_with (fail)
        refine wp_region_ord (S := S) [(0, true), (1, true), (2, true), (3, true), (4, true), (5, true), (6, true), (7, false), (8, true)] (by kernel_rfl) (by kernel_rfl) (by kernel_rfl) ((HS.out _).2 (More.refl _).drew) ?_
        iterate 7 (refine wpOrd_take rfl (by kernel_rfl) (fun K hK => ?_); go_simp; refine hK _ _ ?_; clear hK K)
        refine wpOrd_busy rfl (by kernel_rfl) (fun K hK => ?_); go_simp
        refine (ref_ins ra rl rc _ cl cc op a b c n regs _ rb ro log sec Hr.out.1 (Hr.out.2.more (Hm.out.1.trans (More.refl _).drew)) HA.out).mono ?_
        rintro e w2 ⟨r2, rfl, hr2, m2⟩
        have Hm2 : Hid (More wr w2) := (More.refl _).drew.trans m2
        clear m2
        have e0' := Hm2.out.cell e0
        have e1' := Hm2.out.cell e1
        clear e0 e1
        cases r2 with
        | false =>
          have HF : Hid (¬ InsOk rl log cl regs ⟨op, a, b, c, n⟩) := fun h => by simpa using hr2.2 h
          clear hr2
          go_simp
          refine hK _ _ ((HS.out _).2 Hm2.out) ?_; clear hK K
          refine wpOrd_take rfl (by kernel_rfl) (fun K hK => ?_); go_simp; refine hK _ _ ?_; clear hK K
          refine wpOrd_done ?_
          clear k0 k1 d0 d1 d2 d3 d4 hne q0 q1 q2 q3 q4
          go_wp2
          go_ret
          exact Says.no (fun h => HF.out (HI.out ▸ (HP.out.1 h).2.2.2 k hk)) (Hm.out.1.trans Hm2.out)
        | true =>
          have HF : Hid (InsOk rl log cl regs ⟨op, a, b, c, n⟩) := hr2.1 rfl
          clear hr2
          go_simp
          refine hK _ _ ((HS.out _).2 Hm2.out) ?_; clear hK K
          refine wpOrd_take rfl (by kernel_rfl) (fun K hK => ?_); go_simp; refine hK _ _ ?_; clear hK K
          refine wpOrd_done ?_
          clear k0 k1 d0 d1 d2 d3 d4 hne q0 q1 q2 q3 q4
          go_wp2
          go_roundg g
          case measure => omega
          case rel =>
            refine ⟨k + 1, by omega, by first | rfl | (simp; unfold wrap64; have := Hl.out.2; have := Hcd.out.2; omega), fun j hj => ?_, Hm.out.1.trans Hm2.out, e0', e1'⟩
            by_cases e : j = k
            · subst e; rw [HI.out]; exact HF.out
            · exact Hm.out.2 j (by omega)

theorem ref_hard (p : Prg) (l : Loc) (w : World) (h : PIn w p l) :
    Calls Try.prog 40 #[.agg #[.slice l.ra p.rl l.rc, .slice l.ca p.cl l.cc]] w (Says (p.Ok 8000 10) w) := by
  have H : Hid (PIn w p l) := h
  clear h
  go_enter Try.func40, Try.ntmps40
  go_wp2_with (fail)
  have m0 : More w (w.alloc (.cells #[.slice l.ra p.rl l.rc, .slice l.ca p.cl l.cc] 25)) := (More.refl _).alloc _ _
  refine (ref_is l.ra p.rl l.rc l.ca p.cl l.cc 8000 10 l.rb l.ro l.cb l.co p.log p.sec p.ins _ 8000 rfl (by omega) H.out.hr (H.out.regs.more m0) H.out.hc (H.out.code.more m0)).mono ?_
  rintro e w1 ⟨r, rfl, h1, m1⟩
  have H1 : Hid ((r = true ↔ p.Ok 8000 10) ∧ More w w1) := ⟨h1, m0.trans m1⟩
  clear h1 m1 m0
  go_wp2
  go_ret
  exact ⟨r, rfl, H1.out.1, H1.out.2⟩

set_option maxHeartbeats 1000000 in
theorem ref_fits (ra : Option Addr) (rl rc : Nat) (ca : Option Addr) (cl cc : Nat) (ma : Option Addr) (ml mc : Nat) (rb ro mb mo : Nat) (log : Nat → Int) (sec : Nat → Bool) (A : Nat → Option Addr) (L C : Nat → Nat) (w : World)
    (hra : 0 < rl → ra = some ⟨rb, ro, none⟩) (hr : RegsAt w rb ro rl log sec) (hma : 0 < ml → ma = some ⟨mb, mo, none⟩) (hm : ListsAt w mb mo ml A L C) :
    Calls Try.prog 41 #[.agg #[.slice ra rl rc, .slice ca cl cc], .slice ma ml mc] w (Says (FitsOk rl log ml L) w) := by
  have Hr : Hid ((0 < rl → ra = some ⟨rb, ro, none⟩) ∧ RegsAt w rb ro rl log sec) := ⟨hra, hr⟩
  have Hl : Hid ((0 < ml → ma = some ⟨mb, mo, none⟩) ∧ ListsAt w mb mo ml A L C) := ⟨hma, hm⟩
  obtain ⟨Pr, HP⟩ : ∃ Pr : Prop, Hid (Pr ↔ FitsOk rl log ml L) := ⟨_, Iff.rfl⟩
  rw [← propext HP.out]
  clear hra hr hma hm
  go_enter Try.func41, Try.ntmps41
  go_wp2_with (fail)
  refine (ref_regions ra rl rc ca cl cc rb ro log sec _ Hr.out.1 (Hr.out.2.more ((More.refl _).alloc _ _))).mono ?_
  rintro e w1 ⟨r, rfl, h, m1⟩
  have e0 : w1.cell? ⟨w.heap.size, 0, none⟩ = some (.slice ra rl rc) := m1.cell (by go_simp)
  have e1 : w1.cell? ⟨w.heap.size, 1, none⟩ = some (.slice ca cl cc) := m1.cell (by go_simp)
  have Hm1 : Hid (More w w1) := ((More.refl _).alloc _ _).trans m1
  clear m1
  cases r with
  | false =>
    have HA : Hid (¬ RegionsOk rl log) := fun k => by simpa using h.2 k
    clear h
    go_wp2
    go_ret
    exact Says.no (fun h => HA.out (HP.out.1 h).1) Hm1.out
  | true =>
    have HA : Hid (RegionsOk rl log) := h.1 rfl
    clear h
    by_cases hne : (ml : Int) = (rl : Int)
    · have Hml : Hid (ml = rl) := (by omega : ml = rl)
      have h6 : ml ≤ 6 := by have := HA.out.1; have := Hml.out; omega
      have hne' : ((ml : Int) != (rl : Int)) = false := by simp [hne]
      have Hle : Hid ((ml : Int) ≤ (rl : Int)) := by rw [hne]; exact Int.le_refl _
      clear hne
      have He : Hid (w1.cell? ⟨w.heap.size, 0, none⟩ = some (.slice ra rl rc) ∧ w1.cell? ⟨w.heap.size, 1, none⟩ = some (.slice ca cl cc)) := ⟨e0, e1⟩
      go_wp2
      clear e0 e1 hne'
      go_loopg [5] ml (fun g i wr => ∃ k : Nat, k + g = ml ∧ i = .int .i64 k ∧ (∀ j, j < k → (L j : Int) = wordsI (log j)) ∧ More w wr ∧ wr.cell? ⟨w.heap.size, 0, none⟩ = some (.slice ra rl rc) ∧ wr.cell? ⟨w.heap.size, 1, none⟩ = some (.slice ca cl cc))
      case atStart => exact ⟨0, by omega, rfl, fun j hj => by omega, Hm1.out, He.out.1, He.out.2⟩
      case round =>
        obtain ⟨k, hkg, rfl, hin, m, e0, e1⟩ := hrel
        have Hm : Hid (More w wr ∧ ∀ j, j < k → (L j : Int) = wordsI (log j)) := ⟨m, hin⟩
        clear m hin
        cases gk with
        | zero =>
          obtain rfl : k = ml := by omega
          go_wp2
          go_ret
          exact Says.yes (HP.out.2 ⟨HA.out, Hml.out, fun i hi => Hm.out.2 i (by have := Hml.out; omega)⟩) Hm.out.1
        | succ g =>
          have hk : k < ml := by omega
          have hkr : k < rl := by have := Hml.out; omega
          have hk' : (k : Int) < (ml : Int) := by omega
          have hkr' : (k : Int) < (rl : Int) := by omega
          have hk0 : (0 : Int) ≤ (k : Int) := by omega
          obtain rfl := Hr.out.1 (by omega)
          obtain rfl := Hl.out.1 (by omega)
          have q0 := ((Hr.out.2.more Hm.out.1) k hkr).1
          have q1 := ((Hr.out.2.more Hm.out.1) k hkr).2
          have Hlog : Hid (0 ≤ log k ∧ log k ≤ 6) := HA.out.2 k hkr
          obtain ⟨lk, hlk⟩ : ∃ x, log k = x := ⟨_, rfl⟩
          rw [hlk] at q0 Hlog
          have Hlk : Hid (log k = lk) := hlk
          clear hlk
          go_wp2_with (fail)
          obtain ⟨nw, hnw⟩ : ∃ x, wordsI lk = x := ⟨_, rfl⟩
          refine (ref_words lk Hlog.out.1 Hlog.out.2 (sec k) _).mono ?_
          rw [hnw]
          have Hnw : Hid (wordsI (log k) = nw) := by rw [Hlk.out]; exact hnw
          clear hnw q0 q1
          rintro e w2 ⟨rfl, m2⟩
          have e0' := m2.cell e0
          have e1' := m2.cell e1
          have Hm2 : Hid (More w w2) := Hm.out.1.trans m2
          clear m2 e0 e1
          have q2 := (Hl.out.2.more Hm2.out) k hk
          by_cases hq : (L k : Int) = nw
          · have Hq : Hid ((L k : Int) = nw) := hq
            have heq : ((L k : Int) != nw) = false := by simp [hq]
            clear hq
            go_wp2
            go_roundg g
            case measure => omega
            case rel =>
              refine ⟨k + 1, by omega, by first | rfl | (simp; unfold wrap64; omega), fun j hj => ?_, Hm2.out, e0', e1'⟩
              by_cases e : j = k
              · subst e; rw [Hq.out, Hnw.out]
              · exact Hm.out.2 j (by omega)
          · have Hq : Hid (¬ (L k : Int) = nw) := hq
            have heq' : ((L k : Int) != nw) = true := by simp [hq]
            clear hq
            go_wp2
            go_ret
            exact Says.no (fun h => Hq.out (by rw [← Hnw.out]; exact (HP.out.1 h).2.2 k hkr)) Hm2.out
    · have T : Hid (¬ ml = rl) := fun e => hne (by rw [e])
      have hne' : ((ml : Int) != (rl : Int)) = true := by simp; omega
      clear hne
      go_wp2
      go_ret
      exact Says.no (fun h => T.out (HP.out.1 h).2.1) Hm1.out
end
section
open Go.RowKit
theorem seen_none (w : World) : SeenAt w (.slice none 0 0) [] := ⟨none, 0, 0, 0, rfl, fun h => absurd h (Nat.not_lt_zero _), fun i s h => by simp at h, by simp⟩

/-- An instruction of registers alone, such as a hard program has. -/
theorem ref_registers (i : Ins) (g : Nat) {gc : Nat} (r : Nat → Int) (w : World) (hr : RegsR w g r) (hb : ∀ j, j < 10 → B64 (r j)) {rl : Nat} {log : Nat → Int} {cl : Nat} (hi : InsOk rl log cl 10 i)
    (h3 : ¬ i.op = 3) (h4 : ¬ i.op = 4) (h5 : ¬ i.op = 5) (h6 : ¬ i.op = 6) (h7 : ¬ i.op = 7) (h8 : ¬ i.op = 8) (h9 : ¬ i.op = 9) :
    Calls Try.prog 47 #[.slice (some ⟨g, 0, none⟩) 10 gc, .agg #[.int .i64 i.op, .int .i64 i.a, .int .i64 i.b, .int .i64 i.c, .int .i64 i.n]] w fun e w' =>
      ∃ sv, e = .returned sv ∧ (((regsI r i).2 = [] ∧ sv = .slice none 0 0) ∨ ∃ t, (regsI r i).2 = [t]) ∧ SeenAt w' sv (regsI r i).2 ∧ RegsR w' g (regsI r i).1 ∧ w.grownBy w' (some g) := by
  obtain ⟨op, a, b, c, n⟩ := i
  dsimp only at h3 h4 h5 h6 h7 h8 h9 ⊢
  unfold InsOk at hi
  unfold regsI
  dsimp only at hi ⊢
  by_cases h1 : op = 1
  · subst h1
    simp only [if_true] at hi ⊢
    refine (reg_1 a b c n g r w hr hi.1.1 hi.1.2).mono ?_
    rintro e w' ⟨rfl, k1, k2⟩
    exact ⟨_, rfl, .inl (by simp), seen_none _, k1, k2⟩
  rw [if_neg h1] at hi ⊢
  by_cases h2 : op = 2
  · subst h2
    simp only [if_true] at hi ⊢
    refine (reg_2 a b c n g r w hr hi.1.1 hi.1.2 hi.2.1.1 hi.2.1.2).mono ?_
    rintro e w' ⟨rfl, k1, k2⟩
    exact ⟨_, rfl, .inl (by simp), seen_none _, k1, k2⟩
  rw [if_neg h2] at hi ⊢
  rw [if_neg h3, if_neg h4, if_neg h5, if_neg h6, if_neg h7, if_neg h8, if_neg h9] at hi
  by_cases h10 : op = 10
  · subst h10
    simp only [if_true] at hi ⊢
    refine (reg_10 a b c n g r w hr hi.1.1 hi.1.2 hi.2.1.1 hi.2.1.2).mono ?_
    rintro e w' ⟨rfl, k1, k2⟩
    exact ⟨_, rfl, .inl (by simp), seen_none _, k1, k2⟩
  rw [if_neg h10] at hi ⊢
  by_cases h11 : op = 11
  · subst h11
    simp only [if_true] at hi ⊢
    by_cases hlo : r a.toNat < 0
    · rw [if_pos (Or.inl hlo)]
      refine (reg_11_lo a b c n g r _ w hr rfl hi.1.1 hi.1.2 hlo).mono ?_
      rintro e w' ⟨rfl, k1, k2⟩
      exact ⟨_, rfl, .inl (by simp), seen_none _, k1, k2⟩
    · by_cases hhi : n ≤ r a.toNat
      · rw [if_pos (Or.inr hhi)]
        refine (reg_11_hi a b c n g r _ w hr rfl hi.1.1 hi.1.2 hlo hhi).mono ?_
        rintro e w' ⟨rfl, k1, k2⟩
        exact ⟨_, rfl, .inl (by simp), seen_none _, k1, k2⟩
      · rw [if_neg (by omega)]
        refine (reg_11_in a b c n g r _ w hr rfl hi.1.1 hi.1.2 hlo (by omega)).mono ?_
        rintro e w' ⟨rfl, k1, k2⟩
        exact ⟨_, rfl, .inl (by simp), seen_none _, k1, k2⟩
  rw [if_neg h11] at hi ⊢
  by_cases h12 : op = 12
  · subst h12
    simp only [if_true] at hi ⊢
    refine (reg_12 a b c n g r w hr).mono ?_
    rintro e w' ⟨rfl, k1, k2⟩
    exact ⟨_, rfl, .inl (by simp), seen_none _, k1, k2⟩
  rw [if_neg h12] at hi ⊢
  obtain ⟨⟨o0, o1⟩, ⟨a0, a1⟩, ⟨b0, b1⟩, ⟨c0, c1⟩, _⟩ := hi
  have hb1 := hb b.toNat (by omega)
  have hb2 := hb c.toNat (by omega)
  by_cases h29 : op = 29
  · rw [if_pos (Or.inl h29)]
    refine (reg_op_div op a b c n g r w hr o0 o1 a0 a1 b0 b1 c0 c1 h29 hb1 hb2).mono ?_
    rintro e w' ⟨sv, rfl, k0, k1, k2⟩
    exact ⟨sv, rfl, .inr ⟨_, rfl⟩, k0, k1, k2⟩
  by_cases h30 : op = 30
  · rw [if_pos (Or.inr h30)]
    refine (reg_op_mod op a b c n g r w hr o0 o1 a0 a1 b0 b1 c0 c1 h30 hb1 hb2).mono ?_
    rintro e w' ⟨sv, rfl, k0, k1, k2⟩
    exact ⟨sv, rfl, .inr ⟨_, rfl⟩, k0, k1, k2⟩
  rw [if_neg (by omega)]
  refine (reg_op_no op a b c n g r w hr o0 o1 a0 a1 b0 b1 c0 c1 h29 h30 hb1 hb2).mono ?_
  rintro e w' ⟨rfl, k1, k2⟩
  exact ⟨_, rfl, .inl (by simp), seen_none _, k1, k2⟩

/-- Index, whichever of the four it is. -/
theorem ref_index (i : Ins) (g : Nat) {gc : Nat} (r : Nat → Int) (w : World) (hr : RegsR w g r) (b0 : 0 ≤ i.b) (b1 : i.b < 10) :
    Calls Try.prog 67 #[.slice (some ⟨g, 0, none⟩) 10 gc, .agg #[.int .i64 i.op, .int .i64 i.a, .int .i64 i.b, .int .i64 i.c, .int .i64 i.n]] w fun e w' => e = .returned (.int .i64 (idxI r i)) ∧ More w w' := by
  unfold idxI
  by_cases h : i.op = 5 ∨ i.op = 6
  · rw [if_pos h]
    exact ref_index_k i.op i.a i.b i.c i.n _ h w
  · rw [if_neg h]
    exact ref_index_r i.op i.a i.b i.c i.n g (r i.b.toNat) (fun e => h (.inl e)) (fun e => h (.inr e)) b0 b1 w (hr i.b.toNat (by omega)).1

/-- What is wrong first (C1). -/
def wrongI (hard fits : Prop) [Decidable hard] [Decidable fits] (fuel : Int) : Int :=
  if ¬ hard ∨ ¬ fits then 2 else if fuel < 0 ∨ 40000 < fuel then 3 else 0
end
section
open Go.RowKit
set_option linter.unusedSimpArgs false
set_option linter.unusedVariables false
set_option maxRecDepth 8000
theorem ref_wrong (p : Prg) (l : Loc) (ma : Option Addr) (ml mc mb mo : Nat) (A : Nat → Option Addr) (L C : Nat → Nat) (fuel : Int) (w : World) (h : PIn w p l) (hma : 0 < ml → ma = some ⟨mb, mo, none⟩) (hm : ListsAt w mb mo ml A L C)
    [Decidable (p.Ok 8000 10)] [Decidable (FitsOk p.rl p.log ml L)] (R : Int) (HR : Hid (wrongI (p.Ok 8000 10) (FitsOk p.rl p.log ml L) fuel = R)) :
    Calls Try.prog 16 #[.agg #[.slice l.ra p.rl l.rc, .slice l.ca p.cl l.cc], .slice ma ml mc, .int .i64 fuel] w fun e w' => e = .returned (.int .i64 R) ∧ More w w' := by
  have H : Hid (PIn w p l) := h
  have Hl : Hid ((0 < ml → ma = some ⟨mb, mo, none⟩) ∧ ListsAt w mb mo ml A L C) := ⟨hma, hm⟩
  clear h hma hm
  go_enter Try.func16, Try.ntmps16
  go_wp2_with (fail)
  refine (ref_hard p l _ (H.out.more ((More.refl _).alloc _ _))).mono ?_
  rintro e w1 ⟨r1, rfl, h1, m1⟩
  have e0 : w1.cell? ⟨w.heap.size, 0, none⟩ = some (.slice l.ra p.rl l.rc) := m1.cell (by go_simp)
  have e1 : w1.cell? ⟨w.heap.size, 1, none⟩ = some (.slice l.ca p.cl l.cc) := m1.cell (by go_simp)
  have Hm1 : Hid (More w w1) := ((More.refl _).alloc _ _).trans m1
  clear m1
  cases r1 with
  | false =>
    have HA : Hid (R = 2) := (show R = 2 by rw [← HR.out]; unfold wrongI; rw [if_pos (Or.inl (fun k => by simpa using h1.2 k))])
    clear h1 HR
    obtain rfl := HA.out
    go_wp2
    go_ret
    exact ⟨rfl, Hm1.out⟩
  | true =>
    have HA : Hid (p.Ok 8000 10) := h1.1 rfl
    clear h1
    go_wp2_with (fail)
    refine (ref_fits l.ra p.rl l.rc l.ca p.cl l.cc ma ml mc l.rb l.ro mb mo p.log p.sec A L C _ H.out.hr (H.out.regs.more Hm1.out) Hl.out.1 (Hl.out.2.more Hm1.out)).mono ?_
    rintro e w2 ⟨r2, rfl, h2, m2⟩
    have Hm2 : Hid (More w w2) := Hm1.out.trans m2
    clear m2 e0 e1
    cases r2 with
    | false =>
      have HB : Hid (R = 2) := (show R = 2 by rw [← HR.out]; unfold wrongI; rw [if_pos (Or.inr (fun k => by simpa using h2.2 k))])
      clear h2 HR
      obtain rfl := HB.out
      go_wp2
      go_ret
      exact ⟨rfl, Hm2.out⟩
    | true =>
      have HB : Hid (FitsOk p.rl p.log ml L) := h2.1 rfl
      clear h2
      have hR : R = if fuel < 0 ∨ 40000 < fuel then 3 else 0 := by rw [← HR.out]; unfold wrongI; rw [if_neg (by rintro (k | k); exact k HA.out; exact k HB.out)]
      clear HR
      by_cases f0 : fuel < 0
      · rw [if_pos (Or.inl f0)] at hR
        subst hR
        go_wp2
        go_ret
        exact ⟨rfl, Hm2.out⟩
      by_cases f1 : 40000 < fuel
      · rw [if_pos (Or.inr f1)] at hR
        subst hR
        go_wp2
        go_ret
        exact ⟨rfl, Hm2.out⟩
      rw [if_neg (by omega)] at hR
      subst hR
      go_wp2
      go_ret
      exact ⟨rfl, Hm2.out⟩
/-- What the words were, as lists of a memory. -/
def pastM (q : Pl) (N : Nat) : Mem := ⟨N, fun j => (q.past j).length, fun j i => (q.past j).getD i 0⟩
theorem pastM_words (q : Pl) (N j : Nat) : wordsL (pastM q N) j = ints (q.past j) := by
  apply List.ext_getElem?
  intro i
  by_cases hi : i < (q.past j).length
  · rw [wordsL_at (pastM q N) j i hi]
    simp [ints, pastM, hi]
  · simp only [wordsL, ints, pastM, List.getElem?_map]
    rw [List.getElem?_eq_none (by simp; omega), List.getElem?_eq_none (by omega)]
    rfl

/-- The row's number, and one, or 0. -/
def rowNo (R : Nat → Nat) (c : Nat) : Nat → Nat
  | 0 => 0
  | n + 1 => if R n = c then n + 1 else rowNo R c n
theorem rowNo_some (R : Nat → Nat) (c : Nat) : ∀ n, rowNo R c n ≠ 0 → ∃ j, j < n ∧ R j = c ∧ rowNo R c n = j + 1
  | 0, h => absurd rfl h
  | n + 1, h => by
    unfold rowNo at h ⊢
    by_cases e : R n = c
    · rw [if_pos e]; exact ⟨n, by omega, e, rfl⟩
    · rw [if_neg e] at h ⊢
      obtain ⟨j, h1, h2, h3⟩ := rowNo_some R c n h
      exact ⟨j, by omega, h2, h3⟩
theorem rowNo_at (R : Nat → Nat) (c : Nat) : ∀ n j, j < n → R j = c → rowNo R c n ≠ 0
  | 0, j, h, _ => absurd h (Nat.not_lt_zero _)
  | n + 1, j, h, e => by
    unfold rowNo
    by_cases e' : R n = c
    · rw [if_pos e']; omega
    · rw [if_neg e']
      have : j ≠ n := by rintro rfl; exact e' e
      exact rowNo_at R c n j (by omega) e

/-- Labels for blocks that are apart. -/
def labOf (K N : Nat) (g1 g2 g3 : Nat) (R : Nat → Nat) : Nat → Nat := fun c =>
  if c = g1 then K + 1 else if 0 < N ∧ c = g2 then K + 2 else if 0 < N ∧ c = g3 then K + 3 else if rowNo R c N ≠ 0 then K + 9 + rowNo R c N else 0
theorem labOf_ne {K N g1 g2 g3 : Nat} {R : Nat → Nat} {c : Nat} (h : labOf K N g1 g2 g3 R c ≠ 0) : c = g1 ∨ (0 < N ∧ c = g2) ∨ (0 < N ∧ c = g3) ∨ ∃ j, j < N ∧ R j = c := by
  unfold labOf at h
  split at h
  · left; assumption
  · split at h
    · right; left; assumption
    · split at h
      · right; right; left; assumption
      · split at h
        · rename_i h0
          obtain ⟨j, h1, h2, _⟩ := rowNo_some R c N h0
          exact .inr (.inr (.inr ⟨j, h1, h2⟩))
        · exact absurd rfl h
theorem labOf_row {K N g1 g2 g3 : Nat} {R : Nat → Nat} (j : Nat) (hj : j < N) (h1 : R j ≠ g1) (h2 : R j ≠ g2) (h3 : R j ≠ g3) (ap : ∀ i j, i < N → j < N → i ≠ j → R i ≠ R j) : labOf K N g1 g2 g3 R (R j) = K + 10 + j := by
  unfold labOf
  have h0 := rowNo_at R (R j) N j hj rfl
  rw [if_neg h1, if_neg (fun h => h2 h.2), if_neg (fun h => h3 h.2), if_pos h0]
  obtain ⟨i, k1, k2, k3⟩ := rowNo_some R (R j) N h0
  have e : i = j := by
    rcases Nat.decEq i j with e | e
    · exact absurd k2 (ap _ _ k1 hj e)
    · exact e
  rw [k3, e]; omega

/-- A copied place. -/
theorem pl_copied {w : World} {lo N : Nat} {q : Pl} {g1 rc : Nat} {wa : Option Addr} {wc : Nat} {v : Value} {G C : Nat → Nat} {s0 : Nat} (h1 : lo ≤ g1) (h1' : g1 < s0) (hs : s0 ≤ w.heap.size) (hr : RegsR w g1 q.r)
    (hw : w.ownsRow lo 2 1 (.slice wa N wc) N ((List.range N).map fun j => .int .i64 (q.wd j))) (hwb : ∀ b, (Value.slice wa N wc).ownBlock = some b → b < s0 ∧ b ≠ g1) (hc : CpAt w s0 (pastM q N) N v G C) (hlo : lo ≤ s0) (K : Nat) :
    ∃ pa pc a' lab', v = .slice pa N pc ∧ a'.rg = g1 ∧ a'.regs = .slice (some ⟨g1, 0, none⟩) 10 rc ∧ a'.words N = .slice wa N wc ∧ a'.past N = v ∧ (∀ c, lab' c ≠ 0 → lo ≤ c ∧ c < w.heap.size) ∧ PlL w lo N K lab' q a' := by
  obtain ⟨pa, pc, rfl⟩ := own_form hc.own
  by_cases hN : 0 < N
  · obtain ⟨g2, c2, e2, l2, l2'⟩ := World.ownsRow.form hw hN
    obtain ⟨g3, c3, e3, l3, l3'⟩ := World.ownsRow.form hc.own hN
    have b2 := hwb g2 (by rw [e2]; rfl)
    have hcap : N ≤ wc := by
      rcases hw.2 with ⟨h, _⟩ | ⟨_, cap', _, h, _, _, hn, _⟩
      · rw [e2] at h; cases h
      · injection h with _ _ h3; omega
    rw [e2] at hw
    injection e2 with e2a _ _
    injection e3 with e3a _ e3c
    subst e2a e3a e3c
    have gl : ∀ j, j < N → s0 ≤ G j ∧ G j < w.heap.size ∧ G j ≠ g3 := fun j hj => ⟨((hc.row j hj).lt _ rfl).1, ((hc.row j hj).lt _ rfl).2, fun e => hc.apart j hj (by rw [e]; rfl)⟩
    have ap : ∀ i j, i < N → j < N → i ≠ j → G i ≠ G j := hc.apart2
    refine ⟨_, _, ⟨g1, rc, g2, some ⟨g2, 0, none⟩, wc, g3, some ⟨g3, 0, none⟩, pc, fun j => .slice (some ⟨G j, 0, none⟩) ((pastM q N).len j) (C j)⟩, labOf K N g1 g2 g3 G, rfl, rfl, rfl, rfl, rfl, fun c hc' => ?_, ?_⟩
    · rcases labOf_ne hc' with rfl | ⟨_, rfl⟩ | ⟨_, rfl⟩ | ⟨j, hj, rfl⟩
      · omega
      · omega
      · omega
      · have := gl j hj; omega
    · refine ⟨?_, hr, fun _ => ?_, fun _ => rfl, fun j hj => ⟨?_, World.ownsRow.frozenAt hw j⟩, fun _ => ?_, fun _ => rfl, fun j hj => ⟨?_, World.ownsRow.frozenAt hc.own j⟩, fun j hj => ?_, fun j hj b hb => ?_, hcap⟩
      · unfold labOf; rw [if_pos rfl]
      · unfold labOf; rw [if_neg b2.2, if_pos ⟨hN, rfl⟩]
      · rw [World.ownsRow.cellAt hw j (by omega)]; simp [hj]
      · unfold labOf; rw [if_neg (by dsimp only; omega), if_neg (by dsimp only; omega), if_pos ⟨hN, rfl⟩]
      · rw [World.ownsRow.cellAt hc.own j (by omega)]; simp [hj]
      · have := hc.row j hj
        rw [pastM_words] at this
        refine ⟨this.1, ?_⟩
        rcases this.2 with h | ⟨g, cap, cur, h, hb, hh⟩
        · exact .inl h
        · exact .inr ⟨g, cap, cur, h, by omega, hh⟩
      · have hb' : b = G j := by simpa [Value.ownBlock] using hb.symm
        have := gl j hj
        rw [hb']
        exact labOf_row j hj (by omega) (by omega) this.2.2 ap
  · obtain rfl : N = 0 := by omega
    refine ⟨_, _, ⟨g1, rc, 0, wa, wc, 0, pa, pc, fun _ => .slice none 0 0⟩, labOf K 0 g1 0 0 G, rfl, rfl, rfl, rfl, rfl, fun c hc' => ?_, ?_⟩
    · rcases labOf_ne hc' with rfl | ⟨h, _⟩ | ⟨h, _⟩ | ⟨j, hj, _⟩
      · omega
      · omega
      · omega
      · omega
    · exact ⟨by unfold labOf; rw [if_pos rfl], hr, fun h => absurd h (by omega), fun h => absurd h (by omega), fun j hj => absurd hj (by omega), fun h => absurd h (by omega), fun h => absurd h (by omega), fun j hj => absurd hj (by omega), fun j hj => absurd hj (by omega), fun j hj => absurd hj (by omega), Nat.zero_le _⟩

theorem regs_news {w : World} {g : Nat} {r : Nat → Int} (h : RegsR w g r) : ∀ j u, ((List.range 10).map fun j => (Value.int .i64 (r j)))[j]? = some u → w.cell? ((⟨g, 0, none⟩ : Addr).add j) = some u := by
  intro j u hu
  have hj : j < 10 := by have := (List.getElem?_eq_some_iff.1 hu).1; simpa using this
  rw [Go.WideShapes.add_plain, Nat.zero_add]
  simp [hj] at hu
  rw [← hu]
  exact (h j hj).1
theorem map_one (n : Nat) (f : Nat → Int) : ∀ u ∈ (List.range n).map fun j => (Value.int .i64 (f j)), u.oneCell' = true := by
  intro u hu
  simp only [List.mem_map] at hu
  obtain ⟨i, _, rfl⟩ := hu
  rfl
theorem regs_of_own {w : World} {lo : Nat} {g : Nat} {c : Nat} {r : Nat → Int} (h : w.ownsRow lo 2 1 (.slice (some ⟨g, 0, none⟩) 10 c) 10 ((List.range 10).map fun j => .int .i64 (r j))) : RegsR w g r := fun j hj =>
  ⟨by rw [World.ownsRow.cellAt h j (by omega)]; simp [hj], World.ownsRow.frozenAt h j⟩

theorem grown_but {a c : World} (h : a.grownBy c none) (row : Option Nat) : a.grownBy c row := ⟨h.os, h.tape, h.output, h.size, fun i hi _ => h.block i hi (by simp)⟩
theorem grown_then {a b c : World} {row row' : Option Nat} (h : a.grownBy b row) (k : b.grownBy c row') (hr : ∀ j, row' = some j → a.heap.size ≤ j) : a.grownBy c row :=
  ⟨k.os.trans h.os, k.tape.trans h.tape, k.output.trans h.output, Nat.le_trans h.size k.size, fun i hi hne => (k.block i (Nat.lt_of_lt_of_le hi h.size) (fun e => by have := hr i e.symm; omega)).trans (h.block i hi hne)⟩
theorem words_news {w : World} {g N : Nat} {f : Nat → Int} (h : ∀ j, j < N → Wr w g j (.int .i64 (f j))) : ∀ j u, ((List.range N).map fun j => (Value.int .i64 (f j)))[j]? = some u → w.cell? ((⟨g, 0, none⟩ : Addr).add j) = some u := by
  intro j u hu
  have hj : j < N := by have := (List.getElem?_eq_some_iff.1 hu).1; simpa using this
  rw [Go.WideShapes.add_plain, Nat.zero_add]
  simp [hj] at hu
  rw [← hu]
  exact (h j hj).1
theorem row_news {w : World} {lo : Nat} {pv : Option Addr} {c : Nat} {l : List Int} (h : w.ownsRow lo 2 1 (.slice pv l.length c) l.length (ints l)) (h0 : 0 < l.length) : ∃ g, pv = some ⟨g, 0, none⟩ ∧ g < w.heap.size ∧ ∀ j u, (ints l)[j]? = some u → w.cell? ⟨g, j, none⟩ = some u := by
  obtain ⟨g, cap, e, _, hl⟩ := World.ownsRow.form h h0
  injection e with e1 _ e3
  subst e1 e3
  refine ⟨g, rfl, hl, fun j u hu => ?_⟩
  have hj : j < l.length := by have := (List.getElem?_eq_some_iff.1 hu).1; rw [ints_length] at this; exact this
  rw [World.ownsRow.cellAt h j (by omega)]
  exact hu
theorem CpAt.kept {w w' : World} {base : Nat} {m : Mem} {k : Nat} {v : Value} {G C : Nat → Nat} (h : CpAt w base m k v G C) {b : Nat} (hg : w.grownBy w' (some b)) (hb : b < base) : CpAt w' base m k v G C :=
  ⟨World.ownsRow.kept h.own hg (by
    cases hv : v.ownBlock with
    | none => left; rfl
    | some c => right; intro e; have := (h.own.lt c hv).1; have := Option.some.inj e; omega), fun j hj => World.ownsRow.kept (h.row j hj) hg (by right; intro e; have := ((h.row j hj).lt _ rfl).1; have := Option.some.inj e; omega), h.apart, h.apart2⟩

set_option maxHeartbeats 2000000 in
theorem ref4_copy (w : World) (lo N K0 : Nat) (lab : Nat → Nat) (q : Pl) (a : PV) (h : PlL w lo N K0 lab q a) (hN : N ≤ 384) (hp : ∀ j, j < N → (q.past j).length ≤ 100000) (K : Nat) :
    Calls Try.prog 66 #[.agg #[a.regs, a.words N, a.past N, .int .i64 q.at_]] w fun e w' => ∃ a' lab', e = .returned (.agg #[a'.regs, a'.words N, a'.past N, .int .i64 q.at_]) ∧ More w w' ∧ (∀ c, lab' c ≠ 0 → w.heap.size ≤ c ∧ c < w'.heap.size) ∧ PlL w' w.heap.size N K lab' q a' := by
  obtain ⟨i0, hi, hz0, hz1, hz2⟩ := info_parts info2
  obtain ⟨i1, hi', hz0', hz1', hz2'⟩ := info_parts info43
  have Hi : Hid (Try.prog.info? 2 = some i0 ∧ i0.zero = some (.int .i64 0) ∧ i0.size = 1 ∧ i0.bytes = 8) := ⟨hi, hz0, hz1, hz2⟩
  have Hi' : Hid (Try.prog.info? 67 = some i1 ∧ i1.zero = some (.slice none 0 0) ∧ i1.size = 1 ∧ i1.bytes = 24) := ⟨hi', hz0', hz1', hz2'⟩
  have H : Hid (PlL w lo N K0 lab q a ∧ N ≤ 384 ∧ ∀ j, j < N → (q.past j).length ≤ 100000) := ⟨h, hN, hp⟩
  clear h hN hp hi hz0 hz1 hz2 hi' hz0' hz1' hz2'
  obtain ⟨rg, rc, wg, wa, wc, pg, pa, pc, P⟩ := a
  dsimp only [PV.regs, PV.words, PV.past]
  obtain ⟨at_, hat⟩ : ∃ n : Int, (q.at_ : Int) = n := ⟨_, rfl⟩
  rw [hat]
  clear hat
  have hrl : rg < w.heap.size := cell_block (H.out.1.regs 0 (by omega)).1
  have Hr : Hid (RegsR w rg q.r) := H.out.1.regs
  obtain ⟨W, HW⟩ : ∃ W : World, Hid (((w.alloc (.cells #[.slice (some ⟨rg, 0, none⟩) 10 rc, .slice wa N wc, .slice pa N pc, .int .i64 at_] 69)).alloc (.cells #[.slice none 0 0, .slice none 0 0, .slice none 0 0, .int .i64 0] 69)).alloc (.cells #[.slice none 0 0, .slice none 0 0, .slice none 0 0, .int .i64 at_] 69) = W) := ⟨_, rfl⟩
  have HM : Hid (More w W ∧ W.heap.size = w.heap.size + 3) := by rw [← HW.out]; exact ⟨(((More.refl _).alloc _ _).alloc _ _).alloc _ _, by simp⟩
  have HC : Hid ((Wr W w.heap.size 1 (.slice wa N wc) ∧ Wr W w.heap.size 2 (.slice pa N pc)) ∧ (Wr W (w.heap.size + 1) 0 (.slice none 0 0) ∧ Wr W (w.heap.size + 1) 1 (.slice none 0 0) ∧ Wr W (w.heap.size + 1) 2 (.slice none 0 0) ∧ Wr W (w.heap.size + 1) 3 (.int .i64 0)) ∧
      (Wr W (w.heap.size + 2) 0 (.slice none 0 0) ∧ Wr W (w.heap.size + 2) 1 (.slice none 0 0) ∧ Wr W (w.heap.size + 2) 2 (.slice none 0 0) ∧ Wr W (w.heap.size + 2) 3 (.int .i64 at_))) := by
    rw [← HW.out]
    exact ⟨⟨⟨by go_simp, by go_simp⟩, ⟨by go_simp, by go_simp⟩⟩, ⟨⟨by go_simp, by go_simp⟩, ⟨by go_simp, by go_simp⟩, ⟨by go_simp, by go_simp⟩, ⟨by go_simp, by go_simp⟩⟩, ⟨⟨by go_simp, by go_simp⟩, ⟨by go_simp, by go_simp⟩, ⟨by go_simp, by go_simp⟩, ⟨by go_simp, by go_simp⟩⟩⟩
  go_enter Try.func66, Try.ntmps66
  go_wp2_with (first
    | (at_builtin; refine wpList_append_any _ rfl (.tmp 9) (.tmp 11) 67 rfl w.heap.size 2 i0 (.int .i64 0) 1 8 Try.underlying67 Hi.out.1 Hi.out.2.1 Hi.out.2.2.1 Hi.out.2.2.2 rfl (by decide) (.slice none 0 0) 0 [] rfl (World.ownsRow_nil _ _ _ _) (some ⟨rg, 0, none⟩) 10 rc ((List.range 10).map fun j => .int .i64 (q.r j)) rfl (by simp) (fun _ => ⟨_, rfl, regs_news (by repeat (first | exact Hr.out | apply RegsR.alloc))⟩) (map_one _ _) (by unfold maxLen; omega) (by omega) (by simp; omega) ?_; rw [HW.out]; intro va1 c1 w2 own1 gr1 at1 nn1; obtain ⟨⟨⟨x1, _⟩, _⟩, _, ⟨y0, y0'⟩, ⟨y1, y1'⟩, _⟩ := HC.out; replace x1 := gr1.cell x1 (by simp [Value.ownBlock]); replace y0 := (Wr.kept gr1 ⟨y0, y0'⟩ (by simp [Value.ownBlock])); obtain ⟨y0, y0'⟩ := y0; replace y1 := (Wr.kept gr1 ⟨y1, y1'⟩ (by simp [Value.ownBlock])); obtain ⟨y1, y1'⟩ := y1; have H1 := hid_of' (And.intro own1 (And.intro gr1 at1)); clear own1 gr1 at1 nn1)
    | (at_builtin; go_loud (refine wpList_append_any _ rfl (.tmp 15) (.tmp 17) 67 rfl w.heap.size 2 i0 (.int .i64 0) 1 8 Try.underlying67 Hi.out.1 Hi.out.2.1 Hi.out.2.2.1 Hi.out.2.2.2 rfl (by decide) (.slice none 0 0) 0 [] rfl (World.ownsRow_nil _ _ _ _) wa N wc ((List.range N).map fun j => .int .i64 (q.wd j)) rfl (by simp) (fun h0 => ⟨⟨wg, 0, none⟩, H.out.1.wa h0, words_news (fun j hj => (((H.out.1.words j hj).kept (HM.out.1.grow none) (by simp)).kept H1.out.2.1 (by simp [Value.ownBlock])).other (w.heap.size + 1 + 1) 0 _ (.inl (by have := cell_block (H.out.1.words j hj).1; dsimp only at this ⊢; omega)))⟩) (map_one _ _) (by have := H.out.2.1; unfold maxLen; omega) (by have := H.out.2.1; omega) (by have h1 := H1.out.2.1.size; have h2 := HM.out.2; simp; omega) ?_; intro va2 c2 w3 own2 gr2 at2 nn2; have z1 := Wr.kept gr2 (Wr.other ⟨y1, y1'⟩ (w.heap.size + 2) 0 (.slice va1 10 c1) (by omega)) (by simp [Value.ownBlock]); obtain ⟨z1, z1'⟩ := z1; have H2 := hid_of' (And.intro own2 (And.intro gr2 at2)); clear own2 gr2 at2 nn2)))
  obtain ⟨WL, hWL⟩ : ∃ WL, w3.setCell ⟨w.heap.size + 1 + 1, 1, none⟩ (.slice va2 N c2) = WL := ⟨_, rfl⟩
  rw [hWL]
  have HL : Hid ((W.grownBy WL (some (w.heap.size + 2)) ∧ w.heap.size + 3 ≤ WL.heap.size) ∧ (Wr WL (w.heap.size + 2) 0 (.slice va1 10 c1) ∧ Wr WL (w.heap.size + 2) 1 (.slice va2 N c2) ∧ Wr WL (w.heap.size + 2) 2 (.slice none 0 0) ∧ Wr WL (w.heap.size + 2) 3 (.int .i64 at_)) ∧
      WL.ownsRow w.heap.size 2 1 (.slice va1 10 c1) 10 ((List.range 10).map fun j => .int .i64 (q.r j)) ∧ WL.ownsRow w.heap.size 2 1 (.slice va2 N c2) N ((List.range N).map fun j => .int .i64 (q.wd j)) ∧
      (∀ b, (Value.slice va1 10 c1).ownBlock = some b → b = w.heap.size + 3 ∧ b < WL.heap.size) ∧ (∀ b, (Value.slice va2 N c2).ownBlock = some b → w.heap.size + 3 < b ∧ b < WL.heap.size)) := by
    obtain ⟨own1, gr1, at1⟩ := H1.out
    obtain ⟨own2, gr2, at2⟩ := H2.out
    obtain ⟨hm, hs⟩ := HM.out
    simp only [Nat.zero_add, List.nil_append] at own1 own2 at1 at2 gr1 gr2
    have g1 : W.grownBy w2 (some (w.heap.size + 2)) := grown_but gr1 _
    have g2 := grown_set w2 (w.heap.size + 1 + 1) 0 (.slice va1 10 c1)
    have g3 := grown_but gr2 (some (w.heap.size + 2))
    have g4 := grown_set w3 (w.heap.size + 1 + 1) 1 (.slice va2 N c2)
    rw [hWL] at g4
    have hs1 := gr1.size
    have hs2 := g2.size
    have hs3 := gr2.size
    have hs4 := g4.size
    have hgb : WL.heap.size = w3.heap.size := by rw [← hWL]; simp
    have b1 : ∀ b, (Value.slice va1 10 c1).ownBlock = some b → b = w.heap.size + 3 := fun b hb => by
      rcases at1 b hb with h | h
      · simp [Value.ownBlock] at h
      · omega
    have l1 : ∀ b, (Value.slice va1 10 c1).ownBlock = some b → b < w2.heap.size := fun b hb => (World.ownsRow.lt own1 b hb).2
    have b2 : ∀ b, (Value.slice va2 N c2).ownBlock = some b → b = w2.heap.size := fun b hb => by
      rcases at2 b hb with h | h
      · simp [Value.ownBlock] at h
      · simpa using h
    have l2 : ∀ b, (Value.slice va2 N c2).ownBlock = some b → b < w3.heap.size := fun b hb => (World.ownsRow.lt own2 b hb).2
    obtain ⟨gg1, cc1, e1, _⟩ := World.ownsRow.form own1 (by omega)
    have e1' := b1 gg1 (by rw [e1]; rfl)
    have e1'' := l1 gg1 (by rw [e1]; rfl)
    obtain ⟨y0, y1, y2, y3⟩ := HC.out.2.2
    have k : ∀ o v, Wr W (w.heap.size + 2) o v → Wr w2 (w.heap.size + 2) o v := fun o v h => h.kept gr1 (by simp [Value.ownBlock])
    have k3 : ∀ o v, Wr (w2.setCell ⟨w.heap.size + 1 + 1, 0, none⟩ (.slice va1 10 c1)) (w.heap.size + 2) o v → Wr w3 (w.heap.size + 2) o v := fun o v h => h.kept gr2 (by simp [Value.ownBlock])
    refine ⟨⟨grown_trans (grown_trans (grown_trans g1 g2) g3) g4, by omega⟩, ⟨?_, ?_, ?_, ?_⟩, ?_, ?_, fun b hb => ⟨b1 b hb, by have := l1 b hb; omega⟩, fun b hb => ⟨by have := b2 b hb; omega, by have := l2 b hb; omega⟩⟩
    · rw [← hWL]; exact (k3 _ _ ((k _ _ y0).same _)).other _ _ _ (by omega)
    · rw [← hWL]; exact (k3 _ _ ((k _ _ y1).other _ _ _ (by omega))).same _
    · rw [← hWL]; exact (k3 _ _ ((k _ _ y2).other _ _ _ (by omega))).other _ _ _ (by omega)
    · rw [← hWL]; exact (k3 _ _ ((k _ _ y3).other _ _ _ (by omega))).other _ _ _ (by omega)
    · refine World.ownsRow.kept (World.ownsRow.kept (World.ownsRow.kept own1 g2 ?_) gr2 ?_) g4 ?_
      · right; rw [e1]; simp [Value.ownBlock]; omega
      · right; rw [e1]; simp [Value.ownBlock]
      · right; rw [e1]; simp [Value.ownBlock]; omega
    · refine World.ownsRow.kept own2 g4 ?_
      cases hv : (Value.slice va2 N c2).ownBlock with
      | none => left; rfl
      | some b => right; have := b2 b hv; simp; omega
  clear hWL H1 H2 x1 y0 y0' y1 y1' z1 z1'
  go_wp2
  go_loopg [4] N (fun g i wr => ∃ (k : Nat) (v : Value) (G C : Nat → Nat), k + g = N ∧ i = .int .i64 k ∧ CpAt wr WL.heap.size (pastM q N) k v G C ∧ WL.grownBy wr (some (w.heap.size + 2)) ∧ Wr wr (w.heap.size + 2) 0 (.slice va1 10 c1) ∧ Wr wr (w.heap.size + 2) 1 (.slice va2 N c2) ∧ Wr wr (w.heap.size + 2) 2 v ∧ Wr wr (w.heap.size + 2) 3 (.int .i64 at_))
  case atStart => exact ⟨0, _, _, _, by omega, rfl, CpAt.start _ _ _, grown_refl _ _, HL.out.2.1⟩
  case round =>
    obtain ⟨k, v, G, C, hkg, rfl, hc, hg, hw0, hw1, hw2, hw3⟩ := hrel
    obtain ⟨xa, xc, rfl⟩ := own_form hc.own
    have Hm := hid_of' (And.intro hc (And.intro hg (And.intro hw0 (And.intro hw1 (And.intro hw2 hw3)))))
    clear hc hg hw0 hw1 hw2 hw3
    have xp : wr.cell? ⟨w.heap.size, 2, none⟩ = some (.slice pa N pc) := Hm.out.2.1.cell (HL.out.1.1.cell HC.out.1.2.1 (by simp)) (by simp)
    cases gk with
    | zero =>
      obtain rfl : k = N := by omega
      obtain ⟨_, _, ⟨q0, _⟩, ⟨q1, _⟩, ⟨q2, _⟩, ⟨q3, _⟩⟩ := Hm.out
      have KR : ∀ o u, Wr W (w.heap.size + 1) o u → Wr wr (w.heap.size + 1) o u := fun o u h => (h.kept HL.out.1.1 (by simp)).kept Hm.out.2.1 (by simp)
      obtain ⟨⟨r0, r0'⟩, ⟨r1, r1'⟩, ⟨r2, r2'⟩, ⟨r3, r3'⟩⟩ : Wr wr (w.heap.size + 1) 0 _ ∧ Wr wr (w.heap.size + 1) 1 _ ∧ Wr wr (w.heap.size + 1) 2 _ ∧ Wr wr (w.heap.size + 1) 3 _ := ⟨KR _ _ HC.out.2.1.1, KR _ _ HC.out.2.1.2.1, KR _ _ HC.out.2.1.2.2.1, KR _ _ HC.out.2.1.2.2.2⟩
      clear KR
      go_wp2
      try simp only [Exit.inBlock, Exit.then]
      refine bodyPost_ret (v := .agg #[.slice va1 10 c1, .slice va2 k c2, .slice xa k xc, .int .i64 at_]) (by simp [results, Try.results66, go_sem, *]) rfl ?_
      have hgf := gr_set (gr_set (gr_set (gr_set (grown_refl wr (some (w.heap.size + 1))) 0 (.slice va1 10 c1)) 1 (.slice va2 k c2)) 2 (.slice xa k xc)) 3 (.int .i64 at_)
      obtain ⟨hc, hg, _⟩ := Hm.out
      obtain ⟨⟨gw, hs⟩, _, o1, o2, b1, b2⟩ := HL.out
      obtain ⟨g1, cc1, e1, _⟩ := World.ownsRow.form o1 (by omega)
      injection e1 with e1a _ e1c
      subst e1a e1c
      have hb1 := b1 g1 rfl
      have o1' := World.ownsRow.kept (World.ownsRow.kept o1 hg (.inr (by simp [Value.ownBlock]; omega))) hgf (.inr (by simp [Value.ownBlock]; omega))
      have o2' := World.ownsRow.kept (World.ownsRow.kept o2 hg (by
        cases hv : (Value.slice va2 k c2).ownBlock with
        | none => left; rfl
        | some b => right; have := b2 b hv; simp; omega)) hgf (by
        cases hv : (Value.slice va2 k c2).ownBlock with
        | none => left; rfl
        | some b => right; have := b2 b hv; simp; omega)
      have hm : More w wr := (HM.out.1.grownBy gw (fun b hb => by have := Option.some.inj hb; omega)).grownBy hg (fun b hb => by have := Option.some.inj hb; omega)
      have hm' := hm.grownBy hgf (fun b hb => by have := Option.some.inj hb; omega)
      obtain ⟨pa', pc', a', lab', _, _, e2, e3, e4, hl, hpl⟩ := pl_copied (rc := c1) (s0 := WL.heap.size) (by omega) hb1.2 (Nat.le_trans hg.size hgf.size) (regs_of_own o1') o2' (fun b hb => ⟨(b2 b hb).2, by have := (b2 b hb).1; omega⟩) (hc.kept hgf (by omega)) (by omega) K
      exact ⟨a', lab', by rw [show Value.slice (some ⟨a'.rg, 0, none⟩) 10 a'.rc = a'.regs from rfl, e2, show Value.slice a'.wa k a'.wc = a'.words k from rfl, e3, show Value.slice a'.pa k a'.pc = a'.past k from rfl, e4], hm', hl, hpl⟩
    | succ g =>
      have hk : k < N := by omega
      have hk' : (k : Int) < (N : Int) := by omega
      have hk0 : (0 : Int) ≤ (k : Int) := by omega
      have h0 : 0 < N := by omega
      have hpa : pa = some ⟨pg, 0, none⟩ := H.out.1.pa h0
      subst hpa
      have hpg : pg < w.heap.size := cell_block (H.out.1.past k hk).1
      obtain ⟨pv, pcap, hP⟩ := own_form (H.out.1.rows k hk)
      have xr : wr.cell? ⟨pg, k, none⟩ = some (.slice pv (q.past k).length pcap) := by
        rw [← hP]
        exact Hm.out.2.1.cell (HL.out.1.1.cell (HM.out.1.cell (H.out.1.past k hk).1) (by simp; omega)) (by simp; omega)
      have xv : wr.cell? ⟨w.heap.size + 2, 2, none⟩ = some (.slice xa k xc) := Hm.out.2.2.2.2.1.1
      obtain ⟨S, HS⟩ : ∃ S : World → Prop, Hid (∀ w', S w' ↔ (w'.cell? ⟨w.heap.size, 2, none⟩ = some (.slice (some ⟨pg, 0, none⟩) N pc) ∧ w'.cell? ⟨pg, k, none⟩ = some (.slice pv (q.past k).length pcap) ∧ w'.cell? ⟨w.heap.size + 2, 2, none⟩ = some (.slice xa k xc))) := ⟨_, fun _ => Iff.rfl⟩
      have j1 : ∀ i : { w' // S w' }, i.val.cell? ⟨w.heap.size, 2, none⟩ = some (.slice (some ⟨pg, 0, none⟩) N pc) := fun i => ((HS.out _).1 i.property).1
      have j2 : ∀ i : { w' // S w' }, i.val.cell? ⟨pg, k, none⟩ = some (.slice pv (q.past k).length pcap) := fun i => ((HS.out _).1 i.property).2.1
      have j3 : ∀ i : { w' // S w' }, i.val.cell? ⟨w.heap.size + 2, 2, none⟩ = some (.slice xa k xc) := fun i => ((HS.out _).1 i.property).2.2
      have hS : S wr.drew := (HS.out _).2 ⟨xp, xr, xv⟩
      have hne : Nonempty { w' // S w' } := ⟨⟨_, hS⟩⟩
      go_wp2_with (fail)
      refine wp_region_last (S := S) [(0, true), (1, true), (3, true), (4, true), (5, true), (6, true), (7, true), (2, false), (8, false), (9, false), (10, false), (11, true), (12, false)] (by kernel_rfl) (by kernel_rfl) (by kernel_rfl) hS ?_
      iterate 7 (refine wpOrdZ_take rfl (by kernel_rfl) (fun K hK => ?_); go_simp; refine hK _ _ ?_; clear hK K)
      clear j1 j2 j3
      have HX := hid_of' (And.intro hS (And.intro xp (And.intro xr xv)))
      have Hk := hid_of' hk
      have Hpg := hid_of' (And.intro hpg hP)
      obtain ⟨ln, hln⟩ : ∃ n, (q.past k).length = n := ⟨_, rfl⟩
      have Hln : Hid ((q.past k).length = ln ∧ ln ≤ 100000) := ⟨hln, by rw [← hln]; exact H.out.2.2 k hk⟩
      rw [hln]
      rw [hln] at xr
      have hwsz : WL.heap.size ≤ wr.heap.size := Hm.out.2.1.size
      have hsz := HL.out.1.2
      have Hown1 : Hid ((wr.alloc (.cells #[] 2)).drew.ownsRow WL.heap.size 2 1 (.slice (some ⟨wr.heap.size, 0, none⟩) 0 0) 0 []) := World.ownsRow_made wr #[] 0 hwsz (by unfold maxLen; omega) rfl
      have Hnews : Hid (0 < ln → ∃ ad', pv = some ad' ∧ ∀ j u, (ints (q.past k))[j]? = some u → (wr.alloc (.cells #[] 2)).drew.cell? (ad'.add j) = some u) := by
        intro h0
        have hrow := H.out.1.rows k hk
        rw [show (PV.P _ k) = _ from hP] at hrow
        obtain ⟨g', hpv, hgl, hcs⟩ := row_news hrow (by rw [hln]; exact h0)
        refine ⟨_, hpv, fun j u hu => ?_⟩
        rw [Go.WideShapes.add_plain, Nat.zero_add]
        exact ((More.refl wr).alloc _ _).drew.cell (Hm.out.2.1.cell (HL.out.1.1.cell (HM.out.1.cell (hcs j u hu)) (by simp; omega)) (by simp; omega))
      clear hS xp xr xv hP hln
      refine wpOrdZ_busy rfl (by kernel_rfl) (fun K hK => ?_)
      go_simp
      refine hK _ _ ((HS.out _).2 ?_) ?_
      · obtain ⟨_, x1, x2, x3⟩ := HX.out
        exact ⟨((More.refl wr).alloc _ _).drew.cell x1, ((More.refl wr).alloc _ _).drew.cell x2, ((More.refl wr).alloc _ _).drew.cell x3⟩
      clear hK K
      refine wpOrdZ_busy rfl (by kernel_rfl) (fun K hK => ?_)
      refine wp_append_any _ (.tmp 29) (.tmp 34) 67 rfl WL.heap.size 2 i0 (.int .i64 0) 1 8 Try.underlying67 Hi.out.1 Hi.out.2.1 Hi.out.2.2.1 Hi.out.2.2.2 rfl (by decide) (.slice (some ⟨wr.heap.size, 0, none⟩) 0 0) 0 [] rfl Hown1.out pv ln pcap (ints (q.past k)) rfl (by rw [ints_length, Hln.out.1, Nat.mul_one]) Hnews.out (ints_one _) (by have := Hln.out.2; unfold maxLen; omega) (by have := Hln.out.2; omega) (by simp; omega) ?_
      intro vb cb w4 own4 gr4 at4 nn4
      obtain ⟨ga, rfl⟩ : ∃ ga, vb = some ga := Option.ne_none_iff_exists'.1 (nn4 (by simp [Value.ownBlock]))
      have gad : ga = ⟨ga.block, 0, none⟩ := by
        rcases own4.2 with ⟨h, _⟩ | ⟨g', _, _, h, _⟩
        · cases h
        · injection h with h1 _ _
          rw [Option.some.inj h1]
      obtain ⟨gb, hgb⟩ : ∃ b, ga.block = b := ⟨_, rfl⟩
      rw [hgb] at gad
      subst gad
      clear hgb
      simp only [Nat.zero_add, List.nil_append] at own4 at4 ⊢
      have hgl : wr.heap.size ≤ gb := by
        rcases at4 gb rfl with h | h
        · have := Option.some.inj h; dsimp only at this; omega
        · rw [h]; simp
      have gr4' : (wr.alloc (.cells #[] 2)).grownBy w4 (some wr.heap.size) := ⟨gr4.os, gr4.tape, gr4.output, gr4.size, gr4.block⟩
      have hs4 : wr.heap.size + 1 ≤ w4.heap.size := by have := gr4'.size; simpa using this
      have H4 := hid_of' (And.intro own4 (And.intro gr4' (And.intro hgl hs4)))
      refine hK _ _ ((HS.out _).2 ?_) ?_
      · obtain ⟨_, x1, x2, x3⟩ := HX.out
        have lx1 := cell_block x1
        have lx2 := cell_block x2
        have lx3 := cell_block x3
        dsimp only at lx1 lx2 lx3
        exact ⟨gr4'.cell (((More.refl wr).alloc _ _).cell x1) (by simp; omega), gr4'.cell (((More.refl wr).alloc _ _).cell x2) (by simp; omega), gr4'.cell (((More.refl wr).alloc _ _).cell x3) (by simp; omega)⟩
      clear hK K own4 at4 gr4 gr4' nn4 hgl hs4
      refine wpOrdZ_busy rfl (by kernel_rfl) (fun K hK => ?_)
      go_simp
      refine hK _ _ ((HS.out _).2 ?_) ?_
      · obtain ⟨_, x1, x2, x3⟩ := HX.out
        have lx1 := cell_block x1
        have lx2 := cell_block x2
        have lx3 := cell_block x3
        dsimp only at lx1 lx2 lx3
        have gr4' := H4.out.2.1
        exact ⟨((More.refl w4).alloc _ _).cell (gr4'.cell (((More.refl wr).alloc _ _).cell x1) (by simp; omega)), ((More.refl w4).alloc _ _).cell (gr4'.cell (((More.refl wr).alloc _ _).cell x2) (by simp; omega)), ((More.refl w4).alloc _ _).cell (gr4'.cell (((More.refl wr).alloc _ _).cell x3) (by simp; omega))⟩
      clear hK K
      have Hlen : Hid ((pastM q N).len k = ln) := Hln.out.1
      have Hs4 := hid_of' H4.out.2.2.2
      refine wpOrdZ_busy rfl (by kernel_rfl) (fun K hK => ?_)
      refine wp_append_lies _ (.tmp 28) (.tmp 36) 26 rfl WL.heap.size 67 i1 (.slice none 0 0) 1 24 Try.underlying26 Hi'.out.1 Hi'.out.2.1 Hi'.out.2.2.1 Hi'.out.2.2.2 rfl (by decide) (.slice xa k xc) k ((List.range k).map fun j => .slice (some ⟨G j, 0, none⟩) ((pastM q N).len j) (C j)) rfl (Hm.out.1.own3 _ _ H4.out.2.1) ⟨w4.heap.size, 0, none⟩ 1 1 [.slice (some ⟨gb, 0, none⟩) ln cb] rfl rfl (cell_one_new _ _ _) (fun x hx => by simp at hx; subst hx; rfl) (by decide) (by have := H.out.2.1; have := Hk.out; unfold maxLen; omega) (by have := H.out.2.1; have := Hk.out; omega) (by have := Hs4.out; simp; omega) (w4.heap.size + 1) (by simp) ?_
      intro g2 cap2 w5 own5 gr5 at5 lt5
      have hc5 := Hm.out.1.step (.cells #[] 2) (.cells #[.slice (some ⟨gb, 0, none⟩) ln cb] 67) gb cb g2 cap2 (by rw [Hlen.out, pastM_words]; exact H4.out.1) H4.out.2.1 H4.out.2.2.1 (by rw [Hlen.out]; exact own5) gr5 at5
      have hvb : ∀ b, (Value.slice xa k xc).ownBlock = some b → WL.heap.size ≤ b := fun b hb => (Hm.out.1.own.lt b hb).1
      have kp5 : ∀ b, b < WL.heap.size → some b ≠ (Value.slice xa k xc).ownBlock := fun b hb e => by have := hvb b e.symm; omega
      have kw : ∀ o u, Wr wr (w.heap.size + 2) o u → Wr w5 (w.heap.size + 2) o u := fun o u h => ((h.kept (World.grownBy_alloc wr _ none) (by simp)).kept H4.out.2.1 (by simp; omega)).kept (World.grownBy_alloc w4 _ none) (by simp) |>.kept gr5 (kp5 _ (by omega))
      have g05 : WL.grownBy w5 (some (w.heap.size + 2)) := grown_then (grown_then (grown_then (grown_then Hm.out.2.1 (World.grownBy_alloc wr _ none) (fun j h => by cases h)) H4.out.2.1 (fun j h => by have := Option.some.inj h; omega)) (World.grownBy_alloc w4 _ none) (fun j h => by cases h)) gr5 hvb
      obtain ⟨_, _, m0, m1, m2, m3⟩ := Hm.out
      have H5 := hid_of' (And.intro hc5 (And.intro g05 (And.intro (kw _ _ m0) (And.intro (kw _ _ m1) (And.intro (kw _ _ m2) (kw _ _ m3))))))
      have c2' := (kw _ _ m2).1
      have f2' := (kw _ _ m2).2
      refine hK _ _ ((HS.out _).2 ?_) ?_
      · obtain ⟨_, x1, x2, x3⟩ := HX.out
        have lx1 := cell_block x1
        have lx2 := cell_block x2
        have lx3 := cell_block x3
        dsimp only at lx1 lx2 lx3
        have gr4' := H4.out.2.1
        exact ⟨gr5.cell (((More.refl w4).alloc _ _).cell (gr4'.cell (((More.refl wr).alloc _ _).cell x1) (by simp; omega))) (kp5 _ (by dsimp only; omega)), gr5.cell (((More.refl w4).alloc _ _).cell (gr4'.cell (((More.refl wr).alloc _ _).cell x2) (by simp; omega))) (kp5 _ (by have := Hpg.out.1; dsimp only; omega)), c2'⟩
      clear hK K own5 gr5 at5 lt5 hc5 hvb kp5 kw g05 m0 m1 m2 m3
      refine wpOrdZ_take rfl (by kernel_rfl) (fun K hK => ?_); go_simp; refine hK _ _ ?_; clear hK K
      refine wpOrdZ_last rfl (by kernel_rfl) (by kernel_rfl) (fun K hK => ?_)
      go_simp
      refine hK _ _ ?_
      clear hK K hne
      refine NoPanic.normal ?_
      have hk63 : wrap64 ((k : Int) + 1) = (k : Int) + 1 := by have := H.out.2.1; unfold wrap64; omega
      have hwr := wrapEq
      go_wp2
      go_roundg g
      case measure => omega
      case rel =>
        obtain ⟨hc5, g05, m0, m1, m2, m3⟩ := H5.out
        have hgs := grown_set w5 (w.heap.size + 2) 2 (.slice (some ⟨g2, 0, none⟩) (k + 1) cap2)
        exact ⟨k + 1, _, _, _, by omega, by first | rfl | (push_cast; rfl), hc5.kept hgs (by omega), grown_trans g05 hgs, m0.other _ _ _ (by omega), m1.other _ _ _ (by omega), m2.same _, m3.other _ _ _ (by omega)⟩
end
section
open Go.RowKit
set_option linter.unusedSimpArgs false
set_option linter.unusedVariables false
/-- What a run has beside its state: the program's regions and code, the memory told, how it ended, the value, the steps. -/
structure Ys where
  rv : Value
  cv : Value
  mv : Value
  e : Int
  v : Int
  k : Int
/-- Where it lies: what was seen, the script, the place to come back to, the blocks of both places, labels. -/
structure Zs where
  sv : Value
  sc : Value
  b0 : Value
  b1 : Value
  b2 : Value
  b3 : Value
  a : PV
  b : PV
  lab : Nat → Nat

def gV (N : Nat) (y : Ys) (s : Sp) (z : Zs) : Nat → Value
  | 0 => z.a.regs
  | 1 => z.a.words N
  | 2 => z.a.past N
  | 3 => .int .i64 s.pl.at_
  | 4 => y.rv
  | 5 => y.cv
  | 6 => .int .i64 y.e
  | 7 => .int .i64 y.v
  | 8 => .int .i64 y.k
  | 9 => z.sv
  | 10 => y.mv
  | 11 => z.sc
  | 12 => .bool s.ahead
  | 13 => .int .i64 s.since
  | 14 => z.b0
  | 15 => z.b1
  | 16 => z.b2
  | _ => z.b3

/-- What lies behind the run's own block. -/
structure Rest (w : World) (G N : Nat) (s : Sp) (mo : List (Nat × Obj)) (z : Zs) : Prop where
  lt : G < w.heap.size
  lab : ∀ c, z.lab c ≠ 0 → G < c ∧ c < w.heap.size
  cur : PlL w (G + 1) N 0 z.lab s.pl z.a
  back : s.ahead = true → PlL w (G + 1) N 1000 z.lab s.back z.b ∧ z.b0 = z.b.regs ∧ z.b1 = z.b.words N ∧ z.b2 = z.b.past N ∧ z.b3 = .int .i64 s.back.at_
  seen : SeenOwn w (G + 1) z.sv s.seen
  lseen : ∀ b, z.sv.ownBlock = some b → z.lab b = 5000
  sc : ScAt w G z.sc s.script
  box : ∀ p ∈ mo, G < p.1 ∧ z.lab p.1 = 0 ∧ w.heap[p.1]? = some p.2
structure RS (w : World) (G N : Nat) (y : Ys) (s : Sp) (mo : List (Nat × Obj)) (z : Zs) : Prop where
  cells : ∀ j, j < 18 → Wr w G j (gV N y s z j)
  rest : Rest w G N s mo z
/-- A run of reference 4 at G. -/
structure R4 (w : World) (G N : Nat) (y : Ys) (s : Sp) (mo : List (Nat × Obj)) : Prop where
  out : N ≤ 384 ∧ ∃ z, RS w G N y s mo z

section
variable {w w' : World} {G N : Nat} {y : Ys} {s : Sp} {mo : List (Nat × Obj)} {z : Zs}

/-- What is written is no block of either place, nor what was seen: the rest stays. -/
theorem Rest.kept (h : Rest w G N s mo z) (hN : N ≤ 384) {row : Option Nat} (hg : w.grownBy w' row) (hr : ∀ b, row = some b → z.lab b = 0 ∧ G ≤ b ∧ ∀ p ∈ mo, p.1 ≠ b) : Rest w' G N s mo z := by
  have hz : ∀ K b, row = some b → ¬ InR K (z.lab b) := fun K b hb => by rw [(hr b hb).1]; unfold InR; omega
  refine ⟨Nat.lt_of_lt_of_le h.lt hg.size, fun c hc => ⟨(h.lab c hc).1, Nat.lt_of_lt_of_le (h.lab c hc).2 hg.size⟩, h.cur.kept hN hg (hz 0), fun ha => ⟨(h.back ha).1.kept hN hg (hz 1000), (h.back ha).2⟩, ?_, h.lseen, ?_, fun p hp => ?_⟩
  · refine World.ownsRow.kept h.seen hg ?_
    cases hv : z.sv.ownBlock with
    | none => left; rfl
    | some b => right; intro e; have := (hr b e.symm).1; have := h.lseen b hv; omega
  · refine h.sc.below (Below.grown (Below.refl _ _) hg (Nat.le_of_lt h.lt) (fun b hb => (hr b hb).2.1))
  · obtain ⟨h1, h2, h3⟩ := h.box p hp
    exact ⟨h1, h2, by rw [hg.block p.1 (heap_some_lt h3) (fun e => (hr p.1 e.symm).2.2 p hp rfl)]; exact h3⟩
theorem Rest.own (h : Rest w G N s mo z) (b : Nat) (hb : some G = some b) : z.lab b = 0 ∧ G ≤ b ∧ ∀ p ∈ mo, p.1 ≠ b := by
  obtain rfl := Option.some.inj hb
  refine ⟨?_, Nat.le_refl _, fun p hp e => ?_⟩
  · cases hc : z.lab G with
    | zero => rfl
    | succ n => have := (h.lab G (by rw [hc]; omega)).1; omega
  · have := (h.box p hp).1; omega
theorem RS.kept (h : RS w G N y s mo z) (hN : N ≤ 384) {row : Option Nat} (hg : w.grownBy w' row) (hr : ∀ b, row = some b → z.lab b = 0 ∧ G < b ∧ ∀ p ∈ mo, p.1 ≠ b) : RS w' G N y s mo z :=
  ⟨fun j hj => (h.cells j hj).kept hg (fun e => by have := (hr G e.symm).2.1; omega), h.rest.kept hN hg (fun b hb => ⟨(hr b hb).1, Nat.le_of_lt (hr b hb).2.1, (hr b hb).2.2⟩)⟩
/-- A store into the run's own block. -/
theorem RS.put (h : RS w G N y s mo z) (hN : N ≤ 384) (j : Nat) (v : Value) {y' : Ys} {s' : Sp} {z' : Zs} (hj : j < 18) (hc : ∀ i, i < 18 → gV N y' s' z' i = if i = j then v else gV N y s z i) (hr : ∀ w', Rest w' G N s mo z → Rest w' G N s' mo z') :
    RS (w.setCell ⟨G, j, none⟩ v) G N y' s' mo z' := by
  refine ⟨fun i hi => ?_, hr _ (h.rest.kept hN (grown_set w G j v) h.rest.own)⟩
  rw [hc i hi]
  by_cases e : i = j
  · subst e; rw [if_pos rfl]; exact (h.cells i hi).same _
  · rw [if_neg e]; exact (h.cells i hi).other _ _ _ (by omega)

theorem R4.lt (h : R4 w G N y s mo) : G < w.heap.size := by obtain ⟨_, z, hz⟩ := h.out; exact hz.rest.lt
theorem R4.more (h : R4 w G N y s mo) (m : More w w') : R4 w' G N y s mo := by
  obtain ⟨hN, z, hz⟩ := h.out
  exact ⟨hN, z, hz.kept hN (m.grow none) (fun b hb => by cases hb)⟩
theorem R4.drew (h : R4 w G N y s mo) : R4 w.drew G N y s mo := h.more (More.refl _).drew
theorem R4.fewer (h : R4 w G N y s mo) (l : List (Nat × Obj)) (hl : ∀ p ∈ l, p ∈ mo) : R4 w G N y s l := by
  obtain ⟨hN, z, hz⟩ := h.out
  exact ⟨hN, z, hz.cells, hz.rest.lt, hz.rest.lab, hz.rest.cur, hz.rest.back, hz.rest.seen, hz.rest.lseen, hz.rest.sc, fun p hp => hz.rest.box p (hl p hp)⟩
theorem R4.left (h : R4 w G N y s mo) {p : Nat × Obj} (hp : p ∈ mo) : w.heap[p.1]? = some p.2 := by obtain ⟨hN, z, hz⟩ := h.out; exact (hz.rest.box p hp).2.2
theorem R4.beside (h : R4 w G N y s mo) (o : Obj) : R4 (w.alloc o) G N y s ((w.heap.size, o) :: mo) := by
  obtain ⟨hN, z, hz⟩ := h.out
  have h1 := hz.kept hN (World.grownBy_alloc w o none) (fun b hb => by cases hb)
  refine ⟨hN, z, h1.cells, h1.rest.lt, h1.rest.lab, h1.rest.cur, h1.rest.back, h1.rest.seen, h1.rest.lseen, h1.rest.sc, fun p hp => ?_⟩
  rcases List.mem_cons.1 hp with rfl | hp
  · refine ⟨hz.rest.lt, ?_, heap_alloc_last w o⟩
    cases hc : z.lab w.heap.size with
    | zero => rfl
    | succ n => have := (hz.rest.lab w.heap.size (by rw [hc]; omega)).2; omega
  · exact h1.rest.box p hp

theorem lt18 {P : Nat → Prop} (h0 : P 0) (h1 : P 1) (h2 : P 2) (h3 : P 3) (h4 : P 4) (h5 : P 5) (h6 : P 6) (h7 : P 7) (h8 : P 8) (h9 : P 9) (h10 : P 10) (h11 : P 11) (h12 : P 12) (h13 : P 13) (h14 : P 14) (h15 : P 15) (h16 : P 16) (h17 : P 17) : ∀ i, i < 18 → P i := by
  intro i hi
  have hi' : i = 0 ∨ i = 1 ∨ i = 2 ∨ i = 3 ∨ i = 4 ∨ i = 5 ∨ i = 6 ∨ i = 7 ∨ i = 8 ∨ i = 9 ∨ i = 10 ∨ i = 11 ∨ i = 12 ∨ i = 13 ∨ i = 14 ∨ i = 15 ∨ i = 16 ∨ i = 17 := by omega
  rcases hi' with rfl | rfl | rfl | rfl | rfl | rfl | rfl | rfl | rfl | rfl | rfl | rfl | rfl | rfl | rfl | rfl | rfl | rfl
  · exact h0
  · exact h1
  · exact h2
  · exact h3
  · exact h4
  · exact h5
  · exact h6
  · exact h7
  · exact h8
  · exact h9
  · exact h10
  · exact h11
  · exact h12
  · exact h13
  · exact h14
  · exact h15
  · exact h16
  · exact h17

theorem RS.setAt (h : RS w G N y s mo z) (hN : N ≤ 384) (n : Nat) (m : Int) (hm : m = n) : RS (w.setCell ⟨G, 3, none⟩ (.int .i64 m)) G N y (s.go n) mo z := by
  subst hm
  exact h.put hN 3 _ (by omega) (by exact lt18 rfl rfl rfl rfl rfl rfl rfl rfl rfl rfl rfl rfl rfl rfl rfl rfl rfl rfl) (fun w' r => ⟨r.lt, r.lab, r.cur.go n, r.back, r.seen, r.lseen, r.sc, r.box⟩)
theorem RS.setE (h : RS w G N y s mo z) (hN : N ≤ 384) (n : Int) : RS (w.setCell ⟨G, 6, none⟩ (.int .i64 n)) G N { y with e := n } s mo z := h.put hN 6 _ (by omega) (by exact lt18 rfl rfl rfl rfl rfl rfl rfl rfl rfl rfl rfl rfl rfl rfl rfl rfl rfl rfl) (fun w' r => r)
theorem RS.setV (h : RS w G N y s mo z) (hN : N ≤ 384) (n : Int) : RS (w.setCell ⟨G, 7, none⟩ (.int .i64 n)) G N { y with v := n } s mo z := h.put hN 7 _ (by omega) (by exact lt18 rfl rfl rfl rfl rfl rfl rfl rfl rfl rfl rfl rfl rfl rfl rfl rfl rfl rfl) (fun w' r => r)
theorem RS.setK (h : RS w G N y s mo z) (hN : N ≤ 384) (n : Int) : RS (w.setCell ⟨G, 8, none⟩ (.int .i64 n)) G N { y with k := n } s mo z := h.put hN 8 _ (by omega) (by exact lt18 rfl rfl rfl rfl rfl rfl rfl rfl rfl rfl rfl rfl rfl rfl rfl rfl rfl rfl) (fun w' r => r)
theorem RS.setSc (h : RS w G N y s mo z) (hN : N ≤ 384) (v : Value) (l : List Int) (hl : ScAt w G v l) : RS (w.setCell ⟨G, 11, none⟩ v) G N y { s with script := l } mo { z with sc := v } := by
  have hl' : ScAt (w.setCell ⟨G, 11, none⟩ v) G v l := hl.below (below_put (Below.refl _ _) _ _)
  have h1 := h.rest.kept hN (grown_set w G 11 v) h.rest.own
  refine ⟨fun i hi => ?_, h1.lt, h1.lab, h1.cur, h1.back, h1.seen, h1.lseen, hl', h1.box⟩
  rw [show gV N y { s with script := l } { z with sc := v } i = if i = 11 then v else gV N y s z i from by revert i; exact lt18 rfl rfl rfl rfl rfl rfl rfl rfl rfl rfl rfl rfl rfl rfl rfl rfl rfl rfl]
  by_cases e : i = 11
  · subst e; rw [if_pos rfl]; exact (h.cells 11 hi).same _
  · rw [if_neg e]; exact (h.cells i hi).other _ _ _ (by omega)
theorem RS.setSince (h : RS w G N y s mo z) (hN : N ≤ 384) (n : Int) : RS (w.setCell ⟨G, 13, none⟩ (.int .i64 n)) G N y { s with since := n } mo z := h.put hN 13 _ (by omega) (by exact lt18 rfl rfl rfl rfl rfl rfl rfl rfl rfl rfl rfl rfl rfl rfl rfl rfl rfl rfl) (fun w' r => ⟨r.lt, r.lab, r.cur, r.back, r.seen, r.lseen, r.sc, r.box⟩)
theorem RS.setHere (h : RS w G N y s mo z) (hN : N ≤ 384) : RS (w.setCell ⟨G, 12, none⟩ (.bool false)) G N y { s with ahead := false } mo z := h.put hN 12 _ (by omega) (by exact lt18 rfl rfl rfl rfl rfl rfl rfl rfl rfl rfl rfl rfl rfl rfl rfl rfl rfl rfl) (fun w' r => ⟨r.lt, r.lab, r.cur, fun h => absurd h (by simp), r.seen, r.lseen, r.sc, r.box⟩)

theorem R4.setAt (h : R4 w G N y s mo) (n : Nat) (m : Int) (hm : m = n) : R4 (w.setCell ⟨G, 3, none⟩ (.int .i64 m)) G N y (s.go n) mo := by obtain ⟨hN, z, hz⟩ := h.out; exact ⟨hN, z, hz.setAt hN n m hm⟩
theorem R4.setE (h : R4 w G N y s mo) (n : Int) : R4 (w.setCell ⟨G, 6, none⟩ (.int .i64 n)) G N { y with e := n } s mo := by obtain ⟨hN, z, hz⟩ := h.out; exact ⟨hN, z, hz.setE hN n⟩
theorem R4.setV (h : R4 w G N y s mo) (n : Int) : R4 (w.setCell ⟨G, 7, none⟩ (.int .i64 n)) G N { y with v := n } s mo := by obtain ⟨hN, z, hz⟩ := h.out; exact ⟨hN, z, hz.setV hN n⟩
theorem R4.setK (h : R4 w G N y s mo) (n : Int) : R4 (w.setCell ⟨G, 8, none⟩ (.int .i64 n)) G N { y with k := n } s mo := by obtain ⟨hN, z, hz⟩ := h.out; exact ⟨hN, z, hz.setK hN n⟩
theorem R4.setSince (h : R4 w G N y s mo) (n : Int) : R4 (w.setCell ⟨G, 13, none⟩ (.int .i64 n)) G N y { s with since := n } mo := by obtain ⟨hN, z, hz⟩ := h.out; exact ⟨hN, z, hz.setSince hN n⟩

theorem R4.at_ (h : R4 w G N y s mo) : Wr w G 3 (.int .i64 s.pl.at_) := by obtain ⟨hN, z, hz⟩ := h.out; exact hz.cells 3 (by omega)
theorem R4.rv (h : R4 w G N y s mo) : Wr w G 4 y.rv := by obtain ⟨hN, z, hz⟩ := h.out; exact hz.cells 4 (by omega)
theorem R4.cv (h : R4 w G N y s mo) : Wr w G 5 y.cv := by obtain ⟨hN, z, hz⟩ := h.out; exact hz.cells 5 (by omega)
theorem R4.e (h : R4 w G N y s mo) : Wr w G 6 (.int .i64 y.e) := by obtain ⟨hN, z, hz⟩ := h.out; exact hz.cells 6 (by omega)
theorem R4.v (h : R4 w G N y s mo) : Wr w G 7 (.int .i64 y.v) := by obtain ⟨hN, z, hz⟩ := h.out; exact hz.cells 7 (by omega)
theorem R4.k (h : R4 w G N y s mo) : Wr w G 8 (.int .i64 y.k) := by obtain ⟨hN, z, hz⟩ := h.out; exact hz.cells 8 (by omega)
theorem R4.ahead (h : R4 w G N y s mo) : Wr w G 12 (.bool s.ahead) := by obtain ⟨hN, z, hz⟩ := h.out; exact hz.cells 12 (by omega)
theorem R4.since (h : R4 w G N y s mo) : Wr w G 13 (.int .i64 s.since) := by obtain ⟨hN, z, hz⟩ := h.out; exact hz.cells 13 (by omega)
theorem R4.regs (h : R4 w G N y s mo) : ∃ g c, Wr w G 0 (.slice (some ⟨g, 0, none⟩) 10 c) ∧ RegsR w g s.pl.r ∧ G < g := by
  obtain ⟨hN, z, hz⟩ := h.out
  exact ⟨z.a.rg, z.a.rc, hz.cells 0 (by omega), hz.rest.cur.regs, (hz.rest.lab _ (by rw [hz.rest.cur.lr]; omega)).1⟩

/-- The registers have changed, in their own block alone. -/
theorem RS.regd (h : RS w G N y s mo z) (hN : N ≤ 384) (r : Nat → Int) (hg : w.grownBy w' (some z.a.rg)) (hr : RegsR w' z.a.rg r) : RS w' G N y { s with pl := { s.pl with r := r } } mo z := by
  have hl := h.rest.cur.lr
  have hG := (h.rest.lab _ (by rw [hl]; omega)).1
  have hb : ∀ K b, some z.a.rg = some b → K = 1000 → ¬ InR K (z.lab b) := fun K b hb hK => by rw [← Option.some.inj hb, hl]; unfold InR; omega
  refine ⟨fun j hj => ?_, Nat.lt_of_lt_of_le h.rest.lt hg.size, fun c hc => ⟨(h.rest.lab c hc).1, Nat.lt_of_lt_of_le (h.rest.lab c hc).2 hg.size⟩, h.rest.cur.regd hN r hg hr, fun ha => ⟨(h.rest.back ha).1.kept hN hg (fun b e => hb 1000 b e rfl), (h.rest.back ha).2⟩, ?_, h.rest.lseen, ?_, fun p hp => ?_⟩
  · have := (h.cells j hj).kept hg (by simp; omega)
    exact this
  · refine World.ownsRow.kept h.rest.seen hg ?_
    cases hv : z.sv.ownBlock with
    | none => left; rfl
    | some b => right; intro e; have := h.rest.lseen b hv; rw [Option.some.inj e] at this; omega
  · exact h.rest.sc.below (Below.grown (Below.refl _ _) hg (Nat.le_of_lt h.rest.lt) (fun b hb => by rw [← Option.some.inj hb]; omega))
  · obtain ⟨h1, h2, h3⟩ := h.rest.box p hp
    exact ⟨h1, h2, by rw [hg.block p.1 (heap_some_lt h3) (fun e => by rw [Option.some.inj e] at h2; omega)]; exact h3⟩
end
end
end Go.Proofs.Ytapagihngaiebaa
