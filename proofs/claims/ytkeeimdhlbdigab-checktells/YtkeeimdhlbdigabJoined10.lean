/-
  The texts InsC, InsD, RefForm, Open, one behind the other.
-/
import Derived.Test.YtkeeimdhlbdigabRows
import Derived.WalkKit
import Derived.Deep.LoopGhost
import Derived.Test.YtkeeimdhlbdigabJoined9
import Derived.Test.YtkeeimdhlbdigabJoined0
import Derived.ProofKit
import Derived.OpenShut
import Derived.Deep.Slices
import Derived.Deep.SlicePairs
import Derived.Deep.Matrix
import Derived.Lib.SmallJoins

/-
  What the reference's ins comes to, operation by operation (5, 6, 7).
-/
namespace Go.Proofs.Ytkeeimdhlbdigab
open Go.RowKit

set_option maxRecDepth 8000 in
set_option maxHeartbeats 1000000 in
theorem ins_5 (ra : Option Addr) (rl rc : Nat) (ca : Option Addr) (cl cc : Nat) (a b c n regs : Int) (w : World) (rb ro : Nat) (log : Nat → Int) (sec : Nat → Bool) (hra : 0 < rl → ra = some ⟨rb, ro, none⟩) (hr : RegsAt w rb ro rl log sec) (hok : RegionsOk rl log) (P : Prop) (HP : Hid (P ↔ (True ∧ (∀ j, j < 3 → Fld regs (tri 1 0 2 j) (tri a b c j)) ∧ Rgn rl c ∧ Wrd log c n))) :
    Calls Try.prog 62 #[.agg #[.slice ra rl rc, .slice ca cl cc], .agg #[.int .i64 5, .int .i64 a, .int .i64 b, .int .i64 c, .int .i64 n], .int .i64 regs] w (Says P w) := by
  have Hr : Hid ((0 < rl → ra = some ⟨rb, ro, none⟩) ∧ RegsAt w rb ro rl log sec ∧ RegionsOk rl log) := ⟨hra, hr, hok⟩
  clear hra hr hok
  go_enter Try.func62, Try.ntmps62
  go_wp2_with (fail)
  refine (shape_5 _).mono ?_
  rintro e w1 ⟨g, rfl, hg, m1⟩
  obtain ⟨⟨c0, c1⟩, d0, d1, d2, d3, d4⟩ := boxes2 m1
  have Hg : Hid (∀ j, j < 3 → w1.cell? ⟨g, j, none⟩ = some (.int .i64 (tri 1 0 2 j))) := hg
  have Hm1 : Hid (More w w1) := (((More.refl _).alloc _ _).alloc _ _).trans m1
  clear hg m1
  have HN : Hid True := trivial
  go_wp2
  obtain ⟨W, HW⟩ : ∃ W : World, Hid (W = w1.alloc (.cells #[.int .i64 a, .int .i64 b, .int .i64 c] 3)) := ⟨_, rfl⟩
  have Hm1W : Hid (More w1 W) := HW.out ▸ (More.refl _).alloc _ _
  have Hm : Hid (More w W) := Hm1.out.trans Hm1W.out
  have Hf : Hid (∀ j, j < 3 → W.cell? ⟨w1.heap.size, j, none⟩ = some (.int .i64 (tri a b c j))) := by rw [HW.out]; exact tri_cells (by go_simp) (by go_simp) (by go_simp)
  have Hg' : Hid (∀ j, j < 3 → W.cell? ⟨g, j, none⟩ = some (.int .i64 (tri 1 0 2 j))) := fun j hj => Hm1W.out.cell (Hg.out j hj)
  clear Hg
  replace c0 := Hm1W.out.cell c0
  replace c1 := Hm1W.out.cell c1
  replace d0 := Hm1W.out.cell d0
  replace d1 := Hm1W.out.cell d1
  replace d2 := Hm1W.out.cell d2
  replace d3 := Hm1W.out.cell d3
  replace d4 := Hm1W.out.cell d4
  go_loopg [11] 3 (fun q i wr => ∃ k : Nat, k + q = 3 ∧ i = .int .i64 k ∧ (∀ j, j < k → Fld regs (tri 1 0 2 j) (tri a b c j)) ∧ wr = W)
  case atStart => exact ⟨0, by omega, rfl, fun j hj => by omega, HW.out.symm⟩
  case round =>
    obtain ⟨k, hkg, rfl, hok, rfl⟩ := hrel
    have Hok : Hid (∀ j, j < k → Fld regs (tri 1 0 2 j) (tri a b c j)) := hok
    clear hok
    cases gk with
    | zero =>
      obtain rfl : k = 3 := by omega
      by_cases t0 : c < 0
      · have T : Hid (c < 0) := t0
        go_wp2
        go_ret
        exact ⟨_, rfl, ⟨fun h => by first | (simp at h; done) | (simp at h; omega), fun h => by have h1 := (HP.out.1 h).2.2; have h2 := T.out; have h3 := h1.1.1; omega⟩, Hm.out⟩
      by_cases t1 : (rl : Int) ≤ c
      · have T : Hid ((rl : Int) ≤ c) := t1
        go_wp2
        go_ret
        exact ⟨_, rfl, ⟨fun h => by first | (simp at h; done) | (simp at h; omega), fun h => by have h1 := (HP.out.1 h).2.2; have h2 := T.out; have h3 := h1.1.2; omega⟩, Hm.out⟩
      have hk : c.toNat < rl := by omega
      have t0' : 0 ≤ c := by omega
      have t1' : c < (rl : Int) := by omega
      have Hrgn : Hid (Rgn rl c) := ⟨t0', t1'⟩
      obtain rfl := Hr.out.1 (by omega)
      have q0 := ((Hr.out.2.1.more Hm.out) c.toNat hk).1
      have q1 := ((Hr.out.2.1.more Hm.out) c.toNat hk).2
      have Hlog : Hid (0 ≤ log c.toNat ∧ log c.toNat ≤ 6) := Hr.out.2.2.2 c.toNat hk
      obtain ⟨lk, hlk⟩ : ∃ x, log c.toNat = x := ⟨_, rfl⟩
      rw [hlk] at q0 Hlog
      have Hlk : Hid (log c.toNat = lk) := hlk
      clear hlk
      go_wp2_with (fail)
      obtain ⟨nw, hnw⟩ : ∃ x, wordsI lk = x := ⟨_, rfl⟩
      refine ((ref_words lk Hlog.out.1 Hlog.out.2 (sec c.toNat) _)).mono ?_
      rw [hnw]
      have Hnw : Hid (Wrd log c n ↔ (0 ≤ n ∧ n < nw)) := by unfold Wrd; rw [Hlk.out, ← hnw]; exact Iff.rfl
      clear hnw q0 q1
      rintro e w5 ⟨rfl, m5⟩
      have d4' := m5.cell d4
      clear d4 d3 d2 d1 d0 c0 c1
      have Hm5 : Hid (More w w5) := Hm.out.trans m5
      clear m5
      by_cases t2 : 0 ≤ n
      · by_cases t3 : n < nw
        · have T : Hid (Wrd log c n) := Hnw.out.2 ⟨t2, t3⟩
          go_wp2
          go_ret
          exact ⟨_, rfl, ⟨fun _ => HP.out.2 ⟨HN.out, Hok.out, Hrgn.out, T.out⟩, fun _ => by first | rfl | (simp <;> omega)⟩, Hm5.out⟩
        · have T : Hid (nw ≤ n) := (by omega : nw ≤ n)
          go_wp2
          go_ret
          exact ⟨_, rfl, ⟨fun h => by first | (simp at h; done) | (simp at h; omega), fun h => by have h1 := (HP.out.1 h).2.2; have h2 := T.out; have h3 := (Hnw.out.1 h1.2).2; omega⟩, Hm5.out⟩
      · have T : Hid (n < 0) := (by omega : n < 0)
        go_wp2
        go_ret
        exact ⟨_, rfl, ⟨fun h => by first | (simp at h; done) | (simp at h; omega), fun h => by have h1 := (HP.out.1 h).2.2; have h2 := T.out; have h3 := (Hnw.out.1 h1.2).1; omega⟩, Hm5.out⟩
    | succ q =>
      clear d0 d1 d2 d3 d4 c0 c1
      have hk : k < 3 := by omega
      have hk' : (k : Int) < 3 := by omega
      have hk0 : (0 : Int) ≤ (k : Int) := by omega
      have qg := Hg'.out k hk
      have qf := Hf.out k hk
      obtain ⟨x, hx⟩ : ∃ x, tri 1 0 2 k = x := ⟨_, rfl⟩
      obtain ⟨y, hy⟩ : ∃ y, tri a b c k = y := ⟨_, rfl⟩
      rw [hx] at qg
      rw [hy] at qf
      have HX : Hid (tri 1 0 2 k = x ∧ tri a b c k = y) := ⟨hx, hy⟩
      clear hx hy
      have step : Hid (Fld regs x y → ∀ j, j < k + 1 → Fld regs (tri 1 0 2 j) (tri a b c j)) := by
        intro h j hj
        by_cases e : j = k
        · subst e; rw [HX.out.1, HX.out.2]; exact h
        · exact Hok.out j (by omega)
      have back : Hid ((∀ j, j < 3 → Fld regs (tri 1 0 2 j) (tri a b c j)) → Fld regs x y) := by
        intro h
        have := h k hk
        rw [HX.out.1, HX.out.2] at this
        exact this
      by_cases hx0 : x = 0
      · subst hx0
        by_cases hy0 : y = 0
        · subst hy0
          go_wp2
          go_roundg q
          case measure => omega
          case rel => exact ⟨k + 1, by omega, by first | rfl | simp, step.out ⟨fun _ => rfl, fun h => by simp at h⟩, rfl⟩
        · have hy1 : (y != 0) = true := by simp [hy0]
          have Hy : Hid (¬ y = 0) := hy0
          clear hy0
          go_wp2
          go_ret
          exact Says.no (fun h => Hy.out ((back.out (HP.out.1 h).2.1).1 rfl)) Hm.out
      by_cases hx1 : x = 1
      · subst hx1
        clear hx0
        by_cases hy0 : y < 0
        · have Hy : Hid (y < 0) := hy0
          go_wp2
          go_ret
          exact Says.no (fun h => by have := ((back.out (HP.out.1 h).2.1).2 rfl).1; have := Hy.out; omega) Hm.out
        by_cases hy1 : regs ≤ y
        · have Hy : Hid (regs ≤ y) := hy1
          go_wp2
          go_ret
          exact Says.no (fun h => by have := ((back.out (HP.out.1 h).2.1).2 rfl).2; have := Hy.out; omega) Hm.out
        have Hy : Hid (Reg regs y) := ⟨by omega, by omega⟩
        go_wp2
        go_roundg q
        case measure => omega
        case rel => exact ⟨k + 1, by omega, by first | rfl | simp, step.out ⟨fun h => by simp at h, fun _ => Hy.out⟩, rfl⟩
      have Hx : Hid (¬ x = 0 ∧ ¬ x = 1) := ⟨hx0, hx1⟩
      have hx2 : (x == 0) = false := by simp [hx0]
      have hx3 : (x == 1) = false := by simp [hx1]
      clear hx0 hx1
      go_wp2
      go_roundg q
      case measure => omega
      case rel => exact ⟨k + 1, by omega, by first | rfl | simp, step.out ⟨fun h => absurd h Hx.out.1, fun h => absurd h Hx.out.2⟩, rfl⟩

set_option maxRecDepth 8000 in
set_option maxHeartbeats 1000000 in
theorem ins_6 (ra : Option Addr) (rl rc : Nat) (ca : Option Addr) (cl cc : Nat) (a b c n regs : Int) (w : World) (rb ro : Nat) (log : Nat → Int) (sec : Nat → Bool) (hra : 0 < rl → ra = some ⟨rb, ro, none⟩) (hr : RegsAt w rb ro rl log sec) (hok : RegionsOk rl log) (P : Prop) (HP : Hid (P ↔ (True ∧ (∀ j, j < 3 → Fld regs (tri 1 0 2 j) (tri a b c j)) ∧ Rgn rl c ∧ Wrd log c n))) :
    Calls Try.prog 62 #[.agg #[.slice ra rl rc, .slice ca cl cc], .agg #[.int .i64 6, .int .i64 a, .int .i64 b, .int .i64 c, .int .i64 n], .int .i64 regs] w (Says P w) := by
  have Hr : Hid ((0 < rl → ra = some ⟨rb, ro, none⟩) ∧ RegsAt w rb ro rl log sec ∧ RegionsOk rl log) := ⟨hra, hr, hok⟩
  clear hra hr hok
  go_enter Try.func62, Try.ntmps62
  go_wp2_with (fail)
  refine (shape_6 _).mono ?_
  rintro e w1 ⟨g, rfl, hg, m1⟩
  obtain ⟨⟨c0, c1⟩, d0, d1, d2, d3, d4⟩ := boxes2 m1
  have Hg : Hid (∀ j, j < 3 → w1.cell? ⟨g, j, none⟩ = some (.int .i64 (tri 1 0 2 j))) := hg
  have Hm1 : Hid (More w w1) := (((More.refl _).alloc _ _).alloc _ _).trans m1
  clear hg m1
  have HN : Hid True := trivial
  go_wp2
  obtain ⟨W, HW⟩ : ∃ W : World, Hid (W = w1.alloc (.cells #[.int .i64 a, .int .i64 b, .int .i64 c] 3)) := ⟨_, rfl⟩
  have Hm1W : Hid (More w1 W) := HW.out ▸ (More.refl _).alloc _ _
  have Hm : Hid (More w W) := Hm1.out.trans Hm1W.out
  have Hf : Hid (∀ j, j < 3 → W.cell? ⟨w1.heap.size, j, none⟩ = some (.int .i64 (tri a b c j))) := by rw [HW.out]; exact tri_cells (by go_simp) (by go_simp) (by go_simp)
  have Hg' : Hid (∀ j, j < 3 → W.cell? ⟨g, j, none⟩ = some (.int .i64 (tri 1 0 2 j))) := fun j hj => Hm1W.out.cell (Hg.out j hj)
  clear Hg
  replace c0 := Hm1W.out.cell c0
  replace c1 := Hm1W.out.cell c1
  replace d0 := Hm1W.out.cell d0
  replace d1 := Hm1W.out.cell d1
  replace d2 := Hm1W.out.cell d2
  replace d3 := Hm1W.out.cell d3
  replace d4 := Hm1W.out.cell d4
  go_loopg [11] 3 (fun q i wr => ∃ k : Nat, k + q = 3 ∧ i = .int .i64 k ∧ (∀ j, j < k → Fld regs (tri 1 0 2 j) (tri a b c j)) ∧ wr = W)
  case atStart => exact ⟨0, by omega, rfl, fun j hj => by omega, HW.out.symm⟩
  case round =>
    obtain ⟨k, hkg, rfl, hok, rfl⟩ := hrel
    have Hok : Hid (∀ j, j < k → Fld regs (tri 1 0 2 j) (tri a b c j)) := hok
    clear hok
    cases gk with
    | zero =>
      obtain rfl : k = 3 := by omega
      by_cases t0 : c < 0
      · have T : Hid (c < 0) := t0
        go_wp2
        go_ret
        exact ⟨_, rfl, ⟨fun h => by first | (simp at h; done) | (simp at h; omega), fun h => by have h1 := (HP.out.1 h).2.2; have h2 := T.out; have h3 := h1.1.1; omega⟩, Hm.out⟩
      by_cases t1 : (rl : Int) ≤ c
      · have T : Hid ((rl : Int) ≤ c) := t1
        go_wp2
        go_ret
        exact ⟨_, rfl, ⟨fun h => by first | (simp at h; done) | (simp at h; omega), fun h => by have h1 := (HP.out.1 h).2.2; have h2 := T.out; have h3 := h1.1.2; omega⟩, Hm.out⟩
      have hk : c.toNat < rl := by omega
      have t0' : 0 ≤ c := by omega
      have t1' : c < (rl : Int) := by omega
      have Hrgn : Hid (Rgn rl c) := ⟨t0', t1'⟩
      obtain rfl := Hr.out.1 (by omega)
      have q0 := ((Hr.out.2.1.more Hm.out) c.toNat hk).1
      have q1 := ((Hr.out.2.1.more Hm.out) c.toNat hk).2
      have Hlog : Hid (0 ≤ log c.toNat ∧ log c.toNat ≤ 6) := Hr.out.2.2.2 c.toNat hk
      obtain ⟨lk, hlk⟩ : ∃ x, log c.toNat = x := ⟨_, rfl⟩
      rw [hlk] at q0 Hlog
      have Hlk : Hid (log c.toNat = lk) := hlk
      clear hlk
      go_wp2_with (fail)
      obtain ⟨nw, hnw⟩ : ∃ x, wordsI lk = x := ⟨_, rfl⟩
      refine ((ref_words lk Hlog.out.1 Hlog.out.2 (sec c.toNat) _)).mono ?_
      rw [hnw]
      have Hnw : Hid (Wrd log c n ↔ (0 ≤ n ∧ n < nw)) := by unfold Wrd; rw [Hlk.out, ← hnw]; exact Iff.rfl
      clear hnw q0 q1
      rintro e w5 ⟨rfl, m5⟩
      have d4' := m5.cell d4
      clear d4 d3 d2 d1 d0 c0 c1
      have Hm5 : Hid (More w w5) := Hm.out.trans m5
      clear m5
      by_cases t2 : 0 ≤ n
      · by_cases t3 : n < nw
        · have T : Hid (Wrd log c n) := Hnw.out.2 ⟨t2, t3⟩
          go_wp2
          go_ret
          exact ⟨_, rfl, ⟨fun _ => HP.out.2 ⟨HN.out, Hok.out, Hrgn.out, T.out⟩, fun _ => by first | rfl | (simp <;> omega)⟩, Hm5.out⟩
        · have T : Hid (nw ≤ n) := (by omega : nw ≤ n)
          go_wp2
          go_ret
          exact ⟨_, rfl, ⟨fun h => by first | (simp at h; done) | (simp at h; omega), fun h => by have h1 := (HP.out.1 h).2.2; have h2 := T.out; have h3 := (Hnw.out.1 h1.2).2; omega⟩, Hm5.out⟩
      · have T : Hid (n < 0) := (by omega : n < 0)
        go_wp2
        go_ret
        exact ⟨_, rfl, ⟨fun h => by first | (simp at h; done) | (simp at h; omega), fun h => by have h1 := (HP.out.1 h).2.2; have h2 := T.out; have h3 := (Hnw.out.1 h1.2).1; omega⟩, Hm5.out⟩
    | succ q =>
      clear d0 d1 d2 d3 d4 c0 c1
      have hk : k < 3 := by omega
      have hk' : (k : Int) < 3 := by omega
      have hk0 : (0 : Int) ≤ (k : Int) := by omega
      have qg := Hg'.out k hk
      have qf := Hf.out k hk
      obtain ⟨x, hx⟩ : ∃ x, tri 1 0 2 k = x := ⟨_, rfl⟩
      obtain ⟨y, hy⟩ : ∃ y, tri a b c k = y := ⟨_, rfl⟩
      rw [hx] at qg
      rw [hy] at qf
      have HX : Hid (tri 1 0 2 k = x ∧ tri a b c k = y) := ⟨hx, hy⟩
      clear hx hy
      have step : Hid (Fld regs x y → ∀ j, j < k + 1 → Fld regs (tri 1 0 2 j) (tri a b c j)) := by
        intro h j hj
        by_cases e : j = k
        · subst e; rw [HX.out.1, HX.out.2]; exact h
        · exact Hok.out j (by omega)
      have back : Hid ((∀ j, j < 3 → Fld regs (tri 1 0 2 j) (tri a b c j)) → Fld regs x y) := by
        intro h
        have := h k hk
        rw [HX.out.1, HX.out.2] at this
        exact this
      by_cases hx0 : x = 0
      · subst hx0
        by_cases hy0 : y = 0
        · subst hy0
          go_wp2
          go_roundg q
          case measure => omega
          case rel => exact ⟨k + 1, by omega, by first | rfl | simp, step.out ⟨fun _ => rfl, fun h => by simp at h⟩, rfl⟩
        · have hy1 : (y != 0) = true := by simp [hy0]
          have Hy : Hid (¬ y = 0) := hy0
          clear hy0
          go_wp2
          go_ret
          exact Says.no (fun h => Hy.out ((back.out (HP.out.1 h).2.1).1 rfl)) Hm.out
      by_cases hx1 : x = 1
      · subst hx1
        clear hx0
        by_cases hy0 : y < 0
        · have Hy : Hid (y < 0) := hy0
          go_wp2
          go_ret
          exact Says.no (fun h => by have := ((back.out (HP.out.1 h).2.1).2 rfl).1; have := Hy.out; omega) Hm.out
        by_cases hy1 : regs ≤ y
        · have Hy : Hid (regs ≤ y) := hy1
          go_wp2
          go_ret
          exact Says.no (fun h => by have := ((back.out (HP.out.1 h).2.1).2 rfl).2; have := Hy.out; omega) Hm.out
        have Hy : Hid (Reg regs y) := ⟨by omega, by omega⟩
        go_wp2
        go_roundg q
        case measure => omega
        case rel => exact ⟨k + 1, by omega, by first | rfl | simp, step.out ⟨fun h => by simp at h, fun _ => Hy.out⟩, rfl⟩
      have Hx : Hid (¬ x = 0 ∧ ¬ x = 1) := ⟨hx0, hx1⟩
      have hx2 : (x == 0) = false := by simp [hx0]
      have hx3 : (x == 1) = false := by simp [hx1]
      clear hx0 hx1
      go_wp2
      go_roundg q
      case measure => omega
      case rel => exact ⟨k + 1, by omega, by first | rfl | simp, step.out ⟨fun h => absurd h Hx.out.1, fun h => absurd h Hx.out.2⟩, rfl⟩

set_option maxRecDepth 8000 in
set_option maxHeartbeats 1000000 in
theorem ins_7 (ra : Option Addr) (rl rc : Nat) (ca : Option Addr) (cl cc : Nat) (a b c n regs : Int) (w : World) (P : Prop) (HP : Hid (P ↔ (True ∧ (∀ j, j < 3 → Fld regs (tri 0 0 0 j) (tri a b c j)) ∧ Plc cl n))) :
    Calls Try.prog 62 #[.agg #[.slice ra rl rc, .slice ca cl cc], .agg #[.int .i64 7, .int .i64 a, .int .i64 b, .int .i64 c, .int .i64 n], .int .i64 regs] w (Says P w) := by
  go_enter Try.func62, Try.ntmps62
  go_wp2_with (fail)
  refine (shape_7 _).mono ?_
  rintro e w1 ⟨g, rfl, hg, m1⟩
  obtain ⟨⟨c0, c1⟩, d0, d1, d2, d3, d4⟩ := boxes2 m1
  have Hg : Hid (∀ j, j < 3 → w1.cell? ⟨g, j, none⟩ = some (.int .i64 (tri 0 0 0 j))) := hg
  have Hm1 : Hid (More w w1) := (((More.refl _).alloc _ _).alloc _ _).trans m1
  clear hg m1
  have HN : Hid True := trivial
  go_wp2
  obtain ⟨W, HW⟩ : ∃ W : World, Hid (W = w1.alloc (.cells #[.int .i64 a, .int .i64 b, .int .i64 c] 3)) := ⟨_, rfl⟩
  have Hm1W : Hid (More w1 W) := HW.out ▸ (More.refl _).alloc _ _
  have Hm : Hid (More w W) := Hm1.out.trans Hm1W.out
  have Hf : Hid (∀ j, j < 3 → W.cell? ⟨w1.heap.size, j, none⟩ = some (.int .i64 (tri a b c j))) := by rw [HW.out]; exact tri_cells (by go_simp) (by go_simp) (by go_simp)
  have Hg' : Hid (∀ j, j < 3 → W.cell? ⟨g, j, none⟩ = some (.int .i64 (tri 0 0 0 j))) := fun j hj => Hm1W.out.cell (Hg.out j hj)
  clear Hg
  replace c0 := Hm1W.out.cell c0
  replace c1 := Hm1W.out.cell c1
  replace d0 := Hm1W.out.cell d0
  replace d1 := Hm1W.out.cell d1
  replace d2 := Hm1W.out.cell d2
  replace d3 := Hm1W.out.cell d3
  replace d4 := Hm1W.out.cell d4
  go_loopg [11] 3 (fun q i wr => ∃ k : Nat, k + q = 3 ∧ i = .int .i64 k ∧ (∀ j, j < k → Fld regs (tri 0 0 0 j) (tri a b c j)) ∧ wr = W)
  case atStart => exact ⟨0, by omega, rfl, fun j hj => by omega, HW.out.symm⟩
  case round =>
    obtain ⟨k, hkg, rfl, hok, rfl⟩ := hrel
    have Hok : Hid (∀ j, j < k → Fld regs (tri 0 0 0 j) (tri a b c j)) := hok
    clear hok
    cases gk with
    | zero =>
      obtain rfl : k = 3 := by omega
      by_cases t0 : 0 ≤ n
      · by_cases t1 : n < (cl : Int)
        · have T : Hid (0 ≤ n ∧ n < (cl : Int)) := ⟨t0, t1⟩
          go_wp2
          go_ret
          exact ⟨_, rfl, ⟨fun _ => HP.out.2 ⟨HN.out, Hok.out, T.out⟩, fun _ => by first | rfl | (simp <;> omega)⟩, Hm.out⟩
        · have T : Hid (¬ n < (cl : Int)) := t1
          go_wp2
          go_ret
          exact ⟨_, rfl, ⟨fun h => by first | (simp at h; done) | (simp at h; omega), fun h => by have h1 := (HP.out.1 h).2.2; have h2 := T.out; have h3 := h1.2; omega⟩, Hm.out⟩
      · have T : Hid (¬ 0 ≤ n) := t0
        go_wp2
        go_ret
        exact ⟨_, rfl, ⟨fun h => by first | (simp at h; done) | (simp at h; omega), fun h => by have h1 := (HP.out.1 h).2.2; have h2 := T.out; have h3 := h1.1; omega⟩, Hm.out⟩
    | succ q =>
      clear d0 d1 d2 d3 d4 c0 c1
      have hk : k < 3 := by omega
      have hk' : (k : Int) < 3 := by omega
      have hk0 : (0 : Int) ≤ (k : Int) := by omega
      have qg := Hg'.out k hk
      have qf := Hf.out k hk
      obtain ⟨x, hx⟩ : ∃ x, tri 0 0 0 k = x := ⟨_, rfl⟩
      obtain ⟨y, hy⟩ : ∃ y, tri a b c k = y := ⟨_, rfl⟩
      rw [hx] at qg
      rw [hy] at qf
      have HX : Hid (tri 0 0 0 k = x ∧ tri a b c k = y) := ⟨hx, hy⟩
      clear hx hy
      have step : Hid (Fld regs x y → ∀ j, j < k + 1 → Fld regs (tri 0 0 0 j) (tri a b c j)) := by
        intro h j hj
        by_cases e : j = k
        · subst e; rw [HX.out.1, HX.out.2]; exact h
        · exact Hok.out j (by omega)
      have back : Hid ((∀ j, j < 3 → Fld regs (tri 0 0 0 j) (tri a b c j)) → Fld regs x y) := by
        intro h
        have := h k hk
        rw [HX.out.1, HX.out.2] at this
        exact this
      by_cases hx0 : x = 0
      · subst hx0
        by_cases hy0 : y = 0
        · subst hy0
          go_wp2
          go_roundg q
          case measure => omega
          case rel => exact ⟨k + 1, by omega, by first | rfl | simp, step.out ⟨fun _ => rfl, fun h => by simp at h⟩, rfl⟩
        · have hy1 : (y != 0) = true := by simp [hy0]
          have Hy : Hid (¬ y = 0) := hy0
          clear hy0
          go_wp2
          go_ret
          exact Says.no (fun h => Hy.out ((back.out (HP.out.1 h).2.1).1 rfl)) Hm.out
      by_cases hx1 : x = 1
      · subst hx1
        clear hx0
        by_cases hy0 : y < 0
        · have Hy : Hid (y < 0) := hy0
          go_wp2
          go_ret
          exact Says.no (fun h => by have := ((back.out (HP.out.1 h).2.1).2 rfl).1; have := Hy.out; omega) Hm.out
        by_cases hy1 : regs ≤ y
        · have Hy : Hid (regs ≤ y) := hy1
          go_wp2
          go_ret
          exact Says.no (fun h => by have := ((back.out (HP.out.1 h).2.1).2 rfl).2; have := Hy.out; omega) Hm.out
        have Hy : Hid (Reg regs y) := ⟨by omega, by omega⟩
        go_wp2
        go_roundg q
        case measure => omega
        case rel => exact ⟨k + 1, by omega, by first | rfl | simp, step.out ⟨fun h => by simp at h, fun _ => Hy.out⟩, rfl⟩
      have Hx : Hid (¬ x = 0 ∧ ¬ x = 1) := ⟨hx0, hx1⟩
      have hx2 : (x == 0) = false := by simp [hx0]
      have hx3 : (x == 1) = false := by simp [hx1]
      clear hx0 hx1
      go_wp2
      go_roundg q
      case measure => omega
      case rel => exact ⟨k + 1, by omega, by first | rfl | simp, step.out ⟨fun h => absurd h Hx.out.1, fun h => absurd h Hx.out.2⟩, rfl⟩

end Go.Proofs.Ytkeeimdhlbdigab

/-
  What the reference's ins comes to, operation by operation (8, 10, 11, op).
-/
namespace Go.Proofs.Ytkeeimdhlbdigab
open Go.RowKit

set_option maxRecDepth 8000 in
set_option maxHeartbeats 1000000 in
theorem ins_8 (ra : Option Addr) (rl rc : Nat) (ca : Option Addr) (cl cc : Nat) (a b c n regs : Int) (w : World) (P : Prop) (HP : Hid (P ↔ (True ∧ (∀ j, j < 3 → Fld regs (tri 1 1 2 j) (tri a b c j)) ∧ (1 ≤ c ∧ c ≤ 4) ∧ Plc cl n))) :
    Calls Try.prog 62 #[.agg #[.slice ra rl rc, .slice ca cl cc], .agg #[.int .i64 8, .int .i64 a, .int .i64 b, .int .i64 c, .int .i64 n], .int .i64 regs] w (Says P w) := by
  go_enter Try.func62, Try.ntmps62
  go_wp2_with (fail)
  refine (shape_8 _).mono ?_
  rintro e w1 ⟨g, rfl, hg, m1⟩
  obtain ⟨⟨c0, c1⟩, d0, d1, d2, d3, d4⟩ := boxes2 m1
  have Hg : Hid (∀ j, j < 3 → w1.cell? ⟨g, j, none⟩ = some (.int .i64 (tri 1 1 2 j))) := hg
  have Hm1 : Hid (More w w1) := (((More.refl _).alloc _ _).alloc _ _).trans m1
  clear hg m1
  have HN : Hid True := trivial
  go_wp2
  obtain ⟨W, HW⟩ : ∃ W : World, Hid (W = w1.alloc (.cells #[.int .i64 a, .int .i64 b, .int .i64 c] 3)) := ⟨_, rfl⟩
  have Hm1W : Hid (More w1 W) := HW.out ▸ (More.refl _).alloc _ _
  have Hm : Hid (More w W) := Hm1.out.trans Hm1W.out
  have Hf : Hid (∀ j, j < 3 → W.cell? ⟨w1.heap.size, j, none⟩ = some (.int .i64 (tri a b c j))) := by rw [HW.out]; exact tri_cells (by go_simp) (by go_simp) (by go_simp)
  have Hg' : Hid (∀ j, j < 3 → W.cell? ⟨g, j, none⟩ = some (.int .i64 (tri 1 1 2 j))) := fun j hj => Hm1W.out.cell (Hg.out j hj)
  clear Hg
  replace c0 := Hm1W.out.cell c0
  replace c1 := Hm1W.out.cell c1
  replace d0 := Hm1W.out.cell d0
  replace d1 := Hm1W.out.cell d1
  replace d2 := Hm1W.out.cell d2
  replace d3 := Hm1W.out.cell d3
  replace d4 := Hm1W.out.cell d4
  go_loopg [11] 3 (fun q i wr => ∃ k : Nat, k + q = 3 ∧ i = .int .i64 k ∧ (∀ j, j < k → Fld regs (tri 1 1 2 j) (tri a b c j)) ∧ wr = W)
  case atStart => exact ⟨0, by omega, rfl, fun j hj => by omega, HW.out.symm⟩
  case round =>
    obtain ⟨k, hkg, rfl, hok, rfl⟩ := hrel
    have Hok : Hid (∀ j, j < k → Fld regs (tri 1 1 2 j) (tri a b c j)) := hok
    clear hok
    cases gk with
    | zero =>
      obtain rfl : k = 3 := by omega
      by_cases t0 : 1 ≤ c
      rotate_left
      · have T : Hid (¬ 1 ≤ c) := t0
        go_wp2
        go_ret
        exact ⟨_, rfl, ⟨fun h => by first | (simp at h; done) | (simp at h; omega), fun h => by have h1 := (HP.out.1 h).2.2; have h2 := T.out; have h3 := h1.1.1; omega⟩, Hm.out⟩
      by_cases t1 : c ≤ 4
      rotate_left
      · have T : Hid (¬ c ≤ 4) := t1
        go_wp2
        go_ret
        exact ⟨_, rfl, ⟨fun h => by first | (simp at h; done) | (simp at h; omega), fun h => by have h1 := (HP.out.1 h).2.2; have h2 := T.out; have h3 := h1.1.2; omega⟩, Hm.out⟩
      by_cases t2 : 0 ≤ n
      rotate_left
      · have T : Hid (¬ 0 ≤ n) := t2
        go_wp2
        go_ret
        exact ⟨_, rfl, ⟨fun h => by first | (simp at h; done) | (simp at h; omega), fun h => by have h1 := (HP.out.1 h).2.2; have h2 := T.out; have h3 := h1.2.1; omega⟩, Hm.out⟩
      by_cases t3 : n < (cl : Int)
      rotate_left
      · have T : Hid (¬ n < (cl : Int)) := t3
        go_wp2
        go_ret
        exact ⟨_, rfl, ⟨fun h => by first | (simp at h; done) | (simp at h; omega), fun h => by have h1 := (HP.out.1 h).2.2; have h2 := T.out; have h3 := h1.2.2; omega⟩, Hm.out⟩
      have T : Hid ((1 ≤ c ∧ c ≤ 4) ∧ 0 ≤ n ∧ n < (cl : Int)) := ⟨⟨t0, t1⟩, t2, t3⟩
      go_wp2
      go_ret
      exact ⟨_, rfl, ⟨fun _ => HP.out.2 ⟨HN.out, Hok.out, T.out⟩, fun _ => by first | rfl | (simp <;> omega)⟩, Hm.out⟩
    | succ q =>
      clear d0 d1 d2 d3 d4 c0 c1
      have hk : k < 3 := by omega
      have hk' : (k : Int) < 3 := by omega
      have hk0 : (0 : Int) ≤ (k : Int) := by omega
      have qg := Hg'.out k hk
      have qf := Hf.out k hk
      obtain ⟨x, hx⟩ : ∃ x, tri 1 1 2 k = x := ⟨_, rfl⟩
      obtain ⟨y, hy⟩ : ∃ y, tri a b c k = y := ⟨_, rfl⟩
      rw [hx] at qg
      rw [hy] at qf
      have HX : Hid (tri 1 1 2 k = x ∧ tri a b c k = y) := ⟨hx, hy⟩
      clear hx hy
      have step : Hid (Fld regs x y → ∀ j, j < k + 1 → Fld regs (tri 1 1 2 j) (tri a b c j)) := by
        intro h j hj
        by_cases e : j = k
        · subst e; rw [HX.out.1, HX.out.2]; exact h
        · exact Hok.out j (by omega)
      have back : Hid ((∀ j, j < 3 → Fld regs (tri 1 1 2 j) (tri a b c j)) → Fld regs x y) := by
        intro h
        have := h k hk
        rw [HX.out.1, HX.out.2] at this
        exact this
      by_cases hx0 : x = 0
      · subst hx0
        by_cases hy0 : y = 0
        · subst hy0
          go_wp2
          go_roundg q
          case measure => omega
          case rel => exact ⟨k + 1, by omega, by first | rfl | simp, step.out ⟨fun _ => rfl, fun h => by simp at h⟩, rfl⟩
        · have hy1 : (y != 0) = true := by simp [hy0]
          have Hy : Hid (¬ y = 0) := hy0
          clear hy0
          go_wp2
          go_ret
          exact Says.no (fun h => Hy.out ((back.out (HP.out.1 h).2.1).1 rfl)) Hm.out
      by_cases hx1 : x = 1
      · subst hx1
        clear hx0
        by_cases hy0 : y < 0
        · have Hy : Hid (y < 0) := hy0
          go_wp2
          go_ret
          exact Says.no (fun h => by have := ((back.out (HP.out.1 h).2.1).2 rfl).1; have := Hy.out; omega) Hm.out
        by_cases hy1 : regs ≤ y
        · have Hy : Hid (regs ≤ y) := hy1
          go_wp2
          go_ret
          exact Says.no (fun h => by have := ((back.out (HP.out.1 h).2.1).2 rfl).2; have := Hy.out; omega) Hm.out
        have Hy : Hid (Reg regs y) := ⟨by omega, by omega⟩
        go_wp2
        go_roundg q
        case measure => omega
        case rel => exact ⟨k + 1, by omega, by first | rfl | simp, step.out ⟨fun h => by simp at h, fun _ => Hy.out⟩, rfl⟩
      have Hx : Hid (¬ x = 0 ∧ ¬ x = 1) := ⟨hx0, hx1⟩
      have hx2 : (x == 0) = false := by simp [hx0]
      have hx3 : (x == 1) = false := by simp [hx1]
      clear hx0 hx1
      go_wp2
      go_roundg q
      case measure => omega
      case rel => exact ⟨k + 1, by omega, by first | rfl | simp, step.out ⟨fun h => absurd h Hx.out.1, fun h => absurd h Hx.out.2⟩, rfl⟩

set_option maxRecDepth 8000 in
set_option maxHeartbeats 1000000 in
theorem ins_10 (ra : Option Addr) (rl rc : Nat) (ca : Option Addr) (cl cc : Nat) (a b c n regs : Int) (w : World) (P : Prop) (HP : Hid (P ↔ (True ∧ (∀ j, j < 3 → Fld regs (tri 1 1 0 j) (tri a b c j)) ∧ True))) :
    Calls Try.prog 62 #[.agg #[.slice ra rl rc, .slice ca cl cc], .agg #[.int .i64 10, .int .i64 a, .int .i64 b, .int .i64 c, .int .i64 n], .int .i64 regs] w (Says P w) := by
  go_enter Try.func62, Try.ntmps62
  go_wp2_with (fail)
  refine (shape_10 _).mono ?_
  rintro e w1 ⟨g, rfl, hg, m1⟩
  obtain ⟨⟨c0, c1⟩, d0, d1, d2, d3, d4⟩ := boxes2 m1
  have Hg : Hid (∀ j, j < 3 → w1.cell? ⟨g, j, none⟩ = some (.int .i64 (tri 1 1 0 j))) := hg
  have Hm1 : Hid (More w w1) := (((More.refl _).alloc _ _).alloc _ _).trans m1
  clear hg m1
  have HN : Hid True := trivial
  go_wp2
  obtain ⟨W, HW⟩ : ∃ W : World, Hid (W = w1.alloc (.cells #[.int .i64 a, .int .i64 b, .int .i64 c] 3)) := ⟨_, rfl⟩
  have Hm1W : Hid (More w1 W) := HW.out ▸ (More.refl _).alloc _ _
  have Hm : Hid (More w W) := Hm1.out.trans Hm1W.out
  have Hf : Hid (∀ j, j < 3 → W.cell? ⟨w1.heap.size, j, none⟩ = some (.int .i64 (tri a b c j))) := by rw [HW.out]; exact tri_cells (by go_simp) (by go_simp) (by go_simp)
  have Hg' : Hid (∀ j, j < 3 → W.cell? ⟨g, j, none⟩ = some (.int .i64 (tri 1 1 0 j))) := fun j hj => Hm1W.out.cell (Hg.out j hj)
  clear Hg
  replace c0 := Hm1W.out.cell c0
  replace c1 := Hm1W.out.cell c1
  replace d0 := Hm1W.out.cell d0
  replace d1 := Hm1W.out.cell d1
  replace d2 := Hm1W.out.cell d2
  replace d3 := Hm1W.out.cell d3
  replace d4 := Hm1W.out.cell d4
  go_loopg [11] 3 (fun q i wr => ∃ k : Nat, k + q = 3 ∧ i = .int .i64 k ∧ (∀ j, j < k → Fld regs (tri 1 1 0 j) (tri a b c j)) ∧ wr = W)
  case atStart => exact ⟨0, by omega, rfl, fun j hj => by omega, HW.out.symm⟩
  case round =>
    obtain ⟨k, hkg, rfl, hok, rfl⟩ := hrel
    have Hok : Hid (∀ j, j < k → Fld regs (tri 1 1 0 j) (tri a b c j)) := hok
    clear hok
    cases gk with
    | zero =>
      obtain rfl : k = 3 := by omega
      go_wp2
      go_ret
      exact Says.yes (HP.out.2 ⟨HN.out, Hok.out, trivial⟩) Hm.out
    | succ q =>
      clear d0 d1 d2 d3 d4 c0 c1
      have hk : k < 3 := by omega
      have hk' : (k : Int) < 3 := by omega
      have hk0 : (0 : Int) ≤ (k : Int) := by omega
      have qg := Hg'.out k hk
      have qf := Hf.out k hk
      obtain ⟨x, hx⟩ : ∃ x, tri 1 1 0 k = x := ⟨_, rfl⟩
      obtain ⟨y, hy⟩ : ∃ y, tri a b c k = y := ⟨_, rfl⟩
      rw [hx] at qg
      rw [hy] at qf
      have HX : Hid (tri 1 1 0 k = x ∧ tri a b c k = y) := ⟨hx, hy⟩
      clear hx hy
      have step : Hid (Fld regs x y → ∀ j, j < k + 1 → Fld regs (tri 1 1 0 j) (tri a b c j)) := by
        intro h j hj
        by_cases e : j = k
        · subst e; rw [HX.out.1, HX.out.2]; exact h
        · exact Hok.out j (by omega)
      have back : Hid ((∀ j, j < 3 → Fld regs (tri 1 1 0 j) (tri a b c j)) → Fld regs x y) := by
        intro h
        have := h k hk
        rw [HX.out.1, HX.out.2] at this
        exact this
      by_cases hx0 : x = 0
      · subst hx0
        by_cases hy0 : y = 0
        · subst hy0
          go_wp2
          go_roundg q
          case measure => omega
          case rel => exact ⟨k + 1, by omega, by first | rfl | simp, step.out ⟨fun _ => rfl, fun h => by simp at h⟩, rfl⟩
        · have hy1 : (y != 0) = true := by simp [hy0]
          have Hy : Hid (¬ y = 0) := hy0
          clear hy0
          go_wp2
          go_ret
          exact Says.no (fun h => Hy.out ((back.out (HP.out.1 h).2.1).1 rfl)) Hm.out
      by_cases hx1 : x = 1
      · subst hx1
        clear hx0
        by_cases hy0 : y < 0
        · have Hy : Hid (y < 0) := hy0
          go_wp2
          go_ret
          exact Says.no (fun h => by have := ((back.out (HP.out.1 h).2.1).2 rfl).1; have := Hy.out; omega) Hm.out
        by_cases hy1 : regs ≤ y
        · have Hy : Hid (regs ≤ y) := hy1
          go_wp2
          go_ret
          exact Says.no (fun h => by have := ((back.out (HP.out.1 h).2.1).2 rfl).2; have := Hy.out; omega) Hm.out
        have Hy : Hid (Reg regs y) := ⟨by omega, by omega⟩
        go_wp2
        go_roundg q
        case measure => omega
        case rel => exact ⟨k + 1, by omega, by first | rfl | simp, step.out ⟨fun h => by simp at h, fun _ => Hy.out⟩, rfl⟩
      have Hx : Hid (¬ x = 0 ∧ ¬ x = 1) := ⟨hx0, hx1⟩
      have hx2 : (x == 0) = false := by simp [hx0]
      have hx3 : (x == 1) = false := by simp [hx1]
      clear hx0 hx1
      go_wp2
      go_roundg q
      case measure => omega
      case rel => exact ⟨k + 1, by omega, by first | rfl | simp, step.out ⟨fun h => absurd h Hx.out.1, fun h => absurd h Hx.out.2⟩, rfl⟩

set_option maxRecDepth 8000 in
set_option maxHeartbeats 1000000 in
theorem ins_11 (ra : Option Addr) (rl rc : Nat) (ca : Option Addr) (cl cc : Nat) (a b c n regs : Int) (w : World) (P : Prop) (HP : Hid (P ↔ (True ∧ (∀ j, j < 3 → Fld regs (tri 1 0 0 j) (tri a b c j)) ∧ 1 ≤ n ∧ n ≤ 64))) :
    Calls Try.prog 62 #[.agg #[.slice ra rl rc, .slice ca cl cc], .agg #[.int .i64 11, .int .i64 a, .int .i64 b, .int .i64 c, .int .i64 n], .int .i64 regs] w (Says P w) := by
  go_enter Try.func62, Try.ntmps62
  go_wp2_with (fail)
  refine (shape_11 _).mono ?_
  rintro e w1 ⟨g, rfl, hg, m1⟩
  obtain ⟨⟨c0, c1⟩, d0, d1, d2, d3, d4⟩ := boxes2 m1
  have Hg : Hid (∀ j, j < 3 → w1.cell? ⟨g, j, none⟩ = some (.int .i64 (tri 1 0 0 j))) := hg
  have Hm1 : Hid (More w w1) := (((More.refl _).alloc _ _).alloc _ _).trans m1
  clear hg m1
  have HN : Hid True := trivial
  go_wp2
  obtain ⟨W, HW⟩ : ∃ W : World, Hid (W = w1.alloc (.cells #[.int .i64 a, .int .i64 b, .int .i64 c] 3)) := ⟨_, rfl⟩
  have Hm1W : Hid (More w1 W) := HW.out ▸ (More.refl _).alloc _ _
  have Hm : Hid (More w W) := Hm1.out.trans Hm1W.out
  have Hf : Hid (∀ j, j < 3 → W.cell? ⟨w1.heap.size, j, none⟩ = some (.int .i64 (tri a b c j))) := by rw [HW.out]; exact tri_cells (by go_simp) (by go_simp) (by go_simp)
  have Hg' : Hid (∀ j, j < 3 → W.cell? ⟨g, j, none⟩ = some (.int .i64 (tri 1 0 0 j))) := fun j hj => Hm1W.out.cell (Hg.out j hj)
  clear Hg
  replace c0 := Hm1W.out.cell c0
  replace c1 := Hm1W.out.cell c1
  replace d0 := Hm1W.out.cell d0
  replace d1 := Hm1W.out.cell d1
  replace d2 := Hm1W.out.cell d2
  replace d3 := Hm1W.out.cell d3
  replace d4 := Hm1W.out.cell d4
  go_loopg [11] 3 (fun q i wr => ∃ k : Nat, k + q = 3 ∧ i = .int .i64 k ∧ (∀ j, j < k → Fld regs (tri 1 0 0 j) (tri a b c j)) ∧ wr = W)
  case atStart => exact ⟨0, by omega, rfl, fun j hj => by omega, HW.out.symm⟩
  case round =>
    obtain ⟨k, hkg, rfl, hok, rfl⟩ := hrel
    have Hok : Hid (∀ j, j < k → Fld regs (tri 1 0 0 j) (tri a b c j)) := hok
    clear hok
    cases gk with
    | zero =>
      obtain rfl : k = 3 := by omega
      by_cases t0 : 1 ≤ n
      · by_cases t1 : n ≤ 64
        · have T : Hid (1 ≤ n ∧ n ≤ 64) := ⟨t0, t1⟩
          go_wp2
          go_ret
          exact ⟨_, rfl, ⟨fun _ => HP.out.2 ⟨HN.out, Hok.out, T.out⟩, fun _ => by first | rfl | (simp <;> omega)⟩, Hm.out⟩
        · have T : Hid (¬ n ≤ 64) := t1
          go_wp2
          go_ret
          exact ⟨_, rfl, ⟨fun h => by first | (simp at h; done) | (simp at h; omega), fun h => by have h1 := (HP.out.1 h).2.2; have h2 := T.out; have h3 := h1.2; omega⟩, Hm.out⟩
      · have T : Hid (¬ 1 ≤ n) := t0
        go_wp2
        go_ret
        exact ⟨_, rfl, ⟨fun h => by first | (simp at h; done) | (simp at h; omega), fun h => by have h1 := (HP.out.1 h).2.2; have h2 := T.out; have h3 := h1.1; omega⟩, Hm.out⟩
    | succ q =>
      clear d0 d1 d2 d3 d4 c0 c1
      have hk : k < 3 := by omega
      have hk' : (k : Int) < 3 := by omega
      have hk0 : (0 : Int) ≤ (k : Int) := by omega
      have qg := Hg'.out k hk
      have qf := Hf.out k hk
      obtain ⟨x, hx⟩ : ∃ x, tri 1 0 0 k = x := ⟨_, rfl⟩
      obtain ⟨y, hy⟩ : ∃ y, tri a b c k = y := ⟨_, rfl⟩
      rw [hx] at qg
      rw [hy] at qf
      have HX : Hid (tri 1 0 0 k = x ∧ tri a b c k = y) := ⟨hx, hy⟩
      clear hx hy
      have step : Hid (Fld regs x y → ∀ j, j < k + 1 → Fld regs (tri 1 0 0 j) (tri a b c j)) := by
        intro h j hj
        by_cases e : j = k
        · subst e; rw [HX.out.1, HX.out.2]; exact h
        · exact Hok.out j (by omega)
      have back : Hid ((∀ j, j < 3 → Fld regs (tri 1 0 0 j) (tri a b c j)) → Fld regs x y) := by
        intro h
        have := h k hk
        rw [HX.out.1, HX.out.2] at this
        exact this
      by_cases hx0 : x = 0
      · subst hx0
        by_cases hy0 : y = 0
        · subst hy0
          go_wp2
          go_roundg q
          case measure => omega
          case rel => exact ⟨k + 1, by omega, by first | rfl | simp, step.out ⟨fun _ => rfl, fun h => by simp at h⟩, rfl⟩
        · have hy1 : (y != 0) = true := by simp [hy0]
          have Hy : Hid (¬ y = 0) := hy0
          clear hy0
          go_wp2
          go_ret
          exact Says.no (fun h => Hy.out ((back.out (HP.out.1 h).2.1).1 rfl)) Hm.out
      by_cases hx1 : x = 1
      · subst hx1
        clear hx0
        by_cases hy0 : y < 0
        · have Hy : Hid (y < 0) := hy0
          go_wp2
          go_ret
          exact Says.no (fun h => by have := ((back.out (HP.out.1 h).2.1).2 rfl).1; have := Hy.out; omega) Hm.out
        by_cases hy1 : regs ≤ y
        · have Hy : Hid (regs ≤ y) := hy1
          go_wp2
          go_ret
          exact Says.no (fun h => by have := ((back.out (HP.out.1 h).2.1).2 rfl).2; have := Hy.out; omega) Hm.out
        have Hy : Hid (Reg regs y) := ⟨by omega, by omega⟩
        go_wp2
        go_roundg q
        case measure => omega
        case rel => exact ⟨k + 1, by omega, by first | rfl | simp, step.out ⟨fun h => by simp at h, fun _ => Hy.out⟩, rfl⟩
      have Hx : Hid (¬ x = 0 ∧ ¬ x = 1) := ⟨hx0, hx1⟩
      have hx2 : (x == 0) = false := by simp [hx0]
      have hx3 : (x == 1) = false := by simp [hx1]
      clear hx0 hx1
      go_wp2
      go_roundg q
      case measure => omega
      case rel => exact ⟨k + 1, by omega, by first | rfl | simp, step.out ⟨fun h => absurd h Hx.out.1, fun h => absurd h Hx.out.2⟩, rfl⟩

set_option maxRecDepth 8000 in
set_option maxHeartbeats 1000000 in
theorem ins_op (ra : Option Addr) (rl rc : Nat) (ca : Option Addr) (cl cc : Nat) (op : Int) (o1 : 20 < op) (o2 : op ≤ 30) (a b c n regs : Int) (w : World) (P : Prop) (HP : Hid (P ↔ (n = 0 ∧ (∀ j, j < 3 → Fld regs (tri 1 1 1 j) (tri a b c j)) ∧ True))) :
    Calls Try.prog 62 #[.agg #[.slice ra rl rc, .slice ca cl cc], .agg #[.int .i64 op, .int .i64 a, .int .i64 b, .int .i64 c, .int .i64 n], .int .i64 regs] w (Says P w) := by
  go_enter Try.func62, Try.ntmps62
  go_wp2_with (fail)
  refine (shape_op op o1 o2 _).mono ?_
  rintro e w1 ⟨g, rfl, hg, m1⟩
  obtain ⟨⟨c0, c1⟩, d0, d1, d2, d3, d4⟩ := boxes2 m1
  have Hg : Hid (∀ j, j < 3 → w1.cell? ⟨g, j, none⟩ = some (.int .i64 (tri 1 1 1 j))) := hg
  have Hm1 : Hid (More w w1) := (((More.refl _).alloc _ _).alloc _ _).trans m1
  clear hg m1
  by_cases hn0 : n = 0
  rotate_left
  · have HN : Hid (¬ n = 0) := hn0
    have hn1 : (n != 0) = true := by simp [hn0]
    clear hn0
    go_wp2
    go_ret
    exact Says.no (fun h => HN.out (HP.out.1 h).1) Hm1.out
  have HN : Hid (n = 0) := hn0
  have hn1 : (n != 0) = false := by simp [hn0]
  clear hn0
  go_wp2
  obtain ⟨W, HW⟩ : ∃ W : World, Hid (W = w1.alloc (.cells #[.int .i64 a, .int .i64 b, .int .i64 c] 3)) := ⟨_, rfl⟩
  have Hm1W : Hid (More w1 W) := HW.out ▸ (More.refl _).alloc _ _
  have Hm : Hid (More w W) := Hm1.out.trans Hm1W.out
  have Hf : Hid (∀ j, j < 3 → W.cell? ⟨w1.heap.size, j, none⟩ = some (.int .i64 (tri a b c j))) := by rw [HW.out]; exact tri_cells (by go_simp) (by go_simp) (by go_simp)
  have Hg' : Hid (∀ j, j < 3 → W.cell? ⟨g, j, none⟩ = some (.int .i64 (tri 1 1 1 j))) := fun j hj => Hm1W.out.cell (Hg.out j hj)
  clear Hg
  replace c0 := Hm1W.out.cell c0
  replace c1 := Hm1W.out.cell c1
  replace d0 := Hm1W.out.cell d0
  replace d1 := Hm1W.out.cell d1
  replace d2 := Hm1W.out.cell d2
  replace d3 := Hm1W.out.cell d3
  replace d4 := Hm1W.out.cell d4
  go_loopg [11] 3 (fun q i wr => ∃ k : Nat, k + q = 3 ∧ i = .int .i64 k ∧ (∀ j, j < k → Fld regs (tri 1 1 1 j) (tri a b c j)) ∧ wr = W)
  case atStart => exact ⟨0, by omega, rfl, fun j hj => by omega, HW.out.symm⟩
  case round =>
    obtain ⟨k, hkg, rfl, hok, rfl⟩ := hrel
    have Hok : Hid (∀ j, j < k → Fld regs (tri 1 1 1 j) (tri a b c j)) := hok
    clear hok
    cases gk with
    | zero =>
      obtain rfl : k = 3 := by omega
      go_wp2
      go_ret
      exact Says.yes (HP.out.2 ⟨HN.out, Hok.out, trivial⟩) Hm.out
    | succ q =>
      clear d0 d1 d2 d3 d4 c0 c1
      have hk : k < 3 := by omega
      have hk' : (k : Int) < 3 := by omega
      have hk0 : (0 : Int) ≤ (k : Int) := by omega
      have qg := Hg'.out k hk
      have qf := Hf.out k hk
      obtain ⟨x, hx⟩ : ∃ x, tri 1 1 1 k = x := ⟨_, rfl⟩
      obtain ⟨y, hy⟩ : ∃ y, tri a b c k = y := ⟨_, rfl⟩
      rw [hx] at qg
      rw [hy] at qf
      have HX : Hid (tri 1 1 1 k = x ∧ tri a b c k = y) := ⟨hx, hy⟩
      clear hx hy
      have step : Hid (Fld regs x y → ∀ j, j < k + 1 → Fld regs (tri 1 1 1 j) (tri a b c j)) := by
        intro h j hj
        by_cases e : j = k
        · subst e; rw [HX.out.1, HX.out.2]; exact h
        · exact Hok.out j (by omega)
      have back : Hid ((∀ j, j < 3 → Fld regs (tri 1 1 1 j) (tri a b c j)) → Fld regs x y) := by
        intro h
        have := h k hk
        rw [HX.out.1, HX.out.2] at this
        exact this
      by_cases hx0 : x = 0
      · subst hx0
        by_cases hy0 : y = 0
        · subst hy0
          go_wp2
          go_roundg q
          case measure => omega
          case rel => exact ⟨k + 1, by omega, by first | rfl | simp, step.out ⟨fun _ => rfl, fun h => by simp at h⟩, rfl⟩
        · have hy1 : (y != 0) = true := by simp [hy0]
          have Hy : Hid (¬ y = 0) := hy0
          clear hy0
          go_wp2
          go_ret
          exact Says.no (fun h => Hy.out ((back.out (HP.out.1 h).2.1).1 rfl)) Hm.out
      by_cases hx1 : x = 1
      · subst hx1
        clear hx0
        by_cases hy0 : y < 0
        · have Hy : Hid (y < 0) := hy0
          go_wp2
          go_ret
          exact Says.no (fun h => by have := ((back.out (HP.out.1 h).2.1).2 rfl).1; have := Hy.out; omega) Hm.out
        by_cases hy1 : regs ≤ y
        · have Hy : Hid (regs ≤ y) := hy1
          go_wp2
          go_ret
          exact Says.no (fun h => by have := ((back.out (HP.out.1 h).2.1).2 rfl).2; have := Hy.out; omega) Hm.out
        have Hy : Hid (Reg regs y) := ⟨by omega, by omega⟩
        go_wp2
        go_roundg q
        case measure => omega
        case rel => exact ⟨k + 1, by omega, by first | rfl | simp, step.out ⟨fun h => by simp at h, fun _ => Hy.out⟩, rfl⟩
      have Hx : Hid (¬ x = 0 ∧ ¬ x = 1) := ⟨hx0, hx1⟩
      have hx2 : (x == 0) = false := by simp [hx0]
      have hx3 : (x == 1) = false := by simp [hx1]
      clear hx0 hx1
      go_wp2
      go_roundg q
      case measure => omega
      case rel => exact ⟨k + 1, by omega, by first | rfl | simp, step.out ⟨fun h => absurd h Hx.out.1, fun h => absurd h Hx.out.2⟩, rfl⟩

end Go.Proofs.Ytkeeimdhlbdigab

/-
  What the reference's ins, Is, May, Hard and Fits come to, called in whatever memory.
-/
namespace Go.Proofs.Ytkeeimdhlbdigab
open Go.RowKit
set_option linter.unusedSimpArgs false

theorem tri_all (regs x y z a b c : Int) : (∀ j, j < 3 → Fld regs (tri x y z j) (tri a b c j)) ↔ Fld regs x a ∧ Fld regs y b ∧ Fld regs z c := by
  constructor
  · intro h
    exact ⟨h 0 (by omega), h 1 (by omega), h 2 (by omega)⟩
  · rintro ⟨h0, h1, h2⟩ j hj
    have : j = 0 ∨ j = 1 ∨ j = 2 := by omega
    rcases this with rfl | rfl | rfl
    · exact h0
    · exact h1
    · exact h2
theorem fld0 (regs f : Int) : Fld regs 0 f ↔ f = 0 := by unfold Fld; simp
theorem fld1 (regs f : Int) : Fld regs 1 f ↔ Reg regs f := by unfold Fld; simp
theorem fld2 (regs f : Int) : Fld regs 2 f ↔ True := by unfold Fld; simp

set_option maxRecDepth 8000 in
theorem ins_else (ra : Option Addr) (rl rc : Nat) (ca : Option Addr) (cl cc : Nat) (op a b c n regs : Int) (h1 : ¬ op = 1) (h2 : ¬ op = 2) (h3 : ¬ op = 3) (h4 : ¬ op = 4) (h5 : ¬ op = 5) (h6 : ¬ op = 6) (h7 : ¬ op = 7) (h8 : ¬ op = 8) (h9 : ¬ op = 9) (h10 : ¬ op = 10) (h11 : ¬ op = 11) (h12 : ¬ op = 12) (h : ¬ (20 < op ∧ op ≤ 30)) (w : World) :
    Calls Try.prog 62 #[.agg #[.slice ra rl rc, .slice ca cl cc], .agg #[.int .i64 op, .int .i64 a, .int .i64 b, .int .i64 c, .int .i64 n], .int .i64 regs] w fun e w' => e = .returned (.bool false) ∧ More w w' := by
  have Hs : Hid (∀ w : World, Calls Try.prog 81 #[.int .i64 op] w fun e w' => e = .returned (.tuple #[.slice none 0 0, .bool false, .bool false]) ∧ w' = w) := fun w => shape_else op h1 h2 h3 h4 h5 h6 h7 h8 h9 h10 h11 h12 h w
  clear h1 h2 h3 h4 h5 h6 h7 h8 h9 h10 h11 h12 h
  go_enter Try.func62, Try.ntmps62
  go_wp2_with (fail)
  refine (Hs.out _).mono ?_
  rintro e w1 ⟨rfl, rfl⟩
  go_wp2
  go_ret
  exact ⟨rfl, ((More.refl _).alloc _ _).alloc _ _⟩

theorem ref_ins (ra : Option Addr) (rl rc : Nat) (ca : Option Addr) (cl cc : Nat) (op a b c n regs : Int) (w : World) (rb ro : Nat) (log : Nat → Int) (sec : Nat → Bool) (hra : 0 < rl → ra = some ⟨rb, ro, none⟩) (hr : RegsAt w rb ro rl log sec) (hok : RegionsOk rl log) :
    Calls Try.prog 62 #[.agg #[.slice ra rl rc, .slice ca cl cc], .agg #[.int .i64 op, .int .i64 a, .int .i64 b, .int .i64 c, .int .i64 n], .int .i64 regs] w (Says (InsOk rl log cl regs ⟨op, a, b, c, n⟩) w) := by
  by_cases h1 : op = 1
  · subst h1
    refine ins_1 ra rl rc ca cl cc a b c n regs w _ ?_
    show _ ↔ _
    rw [tri_all]; simp only [fld0, fld1, fld2]
    unfold InsOk
    simp [and_assoc, and_comm, and_left_comm]
  by_cases h2 : op = 2
  · subst h2
    refine ins_2 ra rl rc ca cl cc a b c n regs w _ ?_
    show _ ↔ _
    rw [tri_all]; simp only [fld0, fld1, fld2]
    unfold InsOk
    simp [and_assoc, and_comm, and_left_comm]
  by_cases h3 : op = 3
  · subst h3
    refine ins_3 ra rl rc ca cl cc a b c n regs w _ ?_
    show _ ↔ _
    rw [tri_all]; simp only [fld0, fld1, fld2]
    unfold InsOk
    simp [and_assoc, and_comm, and_left_comm]
  by_cases h4 : op = 4
  · subst h4
    refine ins_4 ra rl rc ca cl cc a b c n regs w _ ?_
    show _ ↔ _
    rw [tri_all]; simp only [fld0, fld1, fld2]
    unfold InsOk
    simp [and_assoc, and_comm, and_left_comm]
  by_cases h5 : op = 5
  · subst h5
    refine ins_5 ra rl rc ca cl cc a b c n regs w rb ro log sec hra hr hok _ ?_
    show _ ↔ _
    rw [tri_all]; simp only [fld0, fld1, fld2]
    unfold InsOk
    simp [and_assoc, and_comm, and_left_comm]
  by_cases h6 : op = 6
  · subst h6
    refine ins_6 ra rl rc ca cl cc a b c n regs w rb ro log sec hra hr hok _ ?_
    show _ ↔ _
    rw [tri_all]; simp only [fld0, fld1, fld2]
    unfold InsOk
    simp [and_assoc, and_comm, and_left_comm]
  by_cases h7 : op = 7
  · subst h7
    refine ins_7 ra rl rc ca cl cc a b c n regs w _ ?_
    show _ ↔ _
    rw [tri_all]; simp only [fld0, fld1, fld2]
    unfold InsOk
    simp [and_assoc, and_comm, and_left_comm]
  by_cases h8 : op = 8
  · subst h8
    refine ins_8 ra rl rc ca cl cc a b c n regs w _ ?_
    show _ ↔ _
    rw [tri_all]; simp only [fld0, fld1, fld2]
    unfold InsOk
    simp [and_assoc, and_comm, and_left_comm]
  by_cases h9 : op = 9
  · subst h9
    refine ins_9 ra rl rc ca cl cc a b c n regs w _ ?_
    show _ ↔ _
    rw [tri_all]; simp only [fld0, fld1, fld2]
    unfold InsOk
    simp [and_assoc, and_comm, and_left_comm]
  by_cases h10 : op = 10
  · subst h10
    refine ins_10 ra rl rc ca cl cc a b c n regs w _ ?_
    show _ ↔ _
    rw [tri_all]; simp only [fld0, fld1, fld2]
    unfold InsOk
    simp [and_assoc, and_comm, and_left_comm]
  by_cases h11 : op = 11
  · subst h11
    refine ins_11 ra rl rc ca cl cc a b c n regs w _ ?_
    show _ ↔ _
    rw [tri_all]; simp only [fld0, fld1, fld2]
    unfold InsOk
    simp [and_assoc, and_comm, and_left_comm]
  by_cases h12 : op = 12
  · subst h12
    refine ins_12 ra rl rc ca cl cc a b c n regs w _ ?_
    show _ ↔ _
    rw [tri_all]; simp only [fld0, fld1, fld2]
    unfold InsOk
    simp [and_assoc, and_comm, and_left_comm]
  by_cases ho : 20 < op ∧ op ≤ 30
  · refine ins_op ra rl rc ca cl cc op ho.1 ho.2 a b c n regs w _ ?_
    show _ ↔ _
    rw [tri_all]; simp only [fld1]
    unfold InsOk
    rw [if_neg h1, if_neg h2, if_neg h3, if_neg h4, if_neg h5, if_neg h6, if_neg h7, if_neg h8, if_neg h9, if_neg h10, if_neg h11, if_neg h12]
    constructor
    · exact fun h => ⟨h.2.2.2.2, ⟨h.2.1, h.2.2.1, h.2.2.2.1⟩, trivial⟩
    · exact fun h => ⟨⟨by have := ho.1; show (21 : Int) ≤ op; omega, ho.2⟩, h.2.1.1, h.2.1.2.1, h.2.1.2.2, h.1⟩
  refine (ins_else ra rl rc ca cl cc op a b c n regs h1 h2 h3 h4 h5 h6 h7 h8 h9 h10 h11 h12 ho w).mono ?_
  rintro e w' ⟨rfl, m⟩
  refine Says.no (fun h => ?_) m
  unfold InsOk at h
  rw [if_neg h1, if_neg h2, if_neg h3, if_neg h4, if_neg h5, if_neg h6, if_neg h7, if_neg h8, if_neg h9, if_neg h10, if_neg h11, if_neg h12] at h
  exact ho ⟨by have := h.1.1; dsimp only at this; omega, h.1.2⟩

set_option maxHeartbeats 1000000 in
theorem ref_is (ra : Option Addr) (rl rc : Nat) (ca : Option Addr) (cl cc : Nat) (code regs : Int) (rb ro cb co : Nat) (log : Nat → Int) (sec : Nat → Bool) (ins : Nat → Ins) (w : World) (most : Nat) (hcode : code = most) (hmost : most ≤ 8000)
    (hra : 0 < rl → ra = some ⟨rb, ro, none⟩) (hr : RegsAt w rb ro rl log sec) (hca : 0 < cl → ca = some ⟨cb, co, none⟩) (hc : CodeAt w cb co cl ins) :
    Calls Try.prog 35 #[.agg #[.slice ra rl rc, .slice ca cl cc], .int .i64 code, .int .i64 regs] w (Says (RegionsOk rl log ∧ CodeOk rl log cl ins most regs) w) := by
  have Hcd : Hid (code = most ∧ most ≤ 8000) := ⟨hcode, hmost⟩
  have Hr : Hid ((0 < rl → ra = some ⟨rb, ro, none⟩) ∧ RegsAt w rb ro rl log sec) := ⟨hra, hr⟩
  have Hc : Hid ((0 < cl → ca = some ⟨cb, co, none⟩) ∧ CodeAt w cb co cl ins) := ⟨hca, hc⟩
  obtain ⟨Pr, HP⟩ : ∃ Pr : Prop, Hid (Pr ↔ (RegionsOk rl log ∧ CodeOk rl log cl ins most regs)) := ⟨_, Iff.rfl⟩
  rw [← propext HP.out]
  clear hcode hmost hra hr hca hc
  go_enter Try.func35, Try.ntmps35
  go_wp2_with (fail)
  refine (ref_regions ra rl rc ca cl cc rb ro log sec _ Hr.out.1 (Hr.out.2.more ((More.refl _).alloc _ _))).mono ?_
  rintro e w1 ⟨r, rfl, h, m1⟩
  have e0 : w1.cell? ⟨w.heap.size, 0, none⟩ = some (.slice ra rl rc) := m1.cell (by go_simp)
  have e1 : w1.cell? ⟨w.heap.size, 1, none⟩ = some (.slice ca cl cc) := m1.cell (by go_simp)
  have Hm1 : Hid (More w w1) := ((More.refl _).alloc _ _).trans m1
  clear m1
  cases r with
  | false =>
    have HA : Hid (¬ RegionsOk rl log) := fun k => by simpa using h.2 k
    clear h
    go_wp2
    go_ret
    exact Says.no (fun h => HA.out (HP.out.1 h).1) Hm1.out
  | true =>
    have HA : Hid (RegionsOk rl log) := h.1 rfl
    clear h
    by_cases h1 : (cl : Int) < 1
    · have T : Hid ((cl : Int) < 1) := h1
      go_wp2
      go_ret
      exact Says.no (fun h => by have := (HP.out.1 h).2.1; have := T.out; omega) Hm1.out
    by_cases h2 : code < (cl : Int)
    · have T : Hid (code < (cl : Int)) := h2
      go_wp2
      go_ret
      exact Says.no (fun h => by have := (HP.out.1 h).2.2.1; have := Hcd.out.1; have := T.out; omega) Hm1.out
    have Hl : Hid (1 ≤ cl ∧ cl ≤ most) := ⟨by omega, by have := Hcd.out.1; omega⟩
    have He : Hid (w1.cell? ⟨w.heap.size, 0, none⟩ = some (.slice ra rl rc) ∧ w1.cell? ⟨w.heap.size, 1, none⟩ = some (.slice ca cl cc)) := ⟨e0, e1⟩
    go_wp2
    clear e0 e1
    go_loopg [7] cl (fun g i wr => ∃ k : Nat, k + g = cl ∧ i = .int .i64 k ∧ (∀ j, j < k → InsOk rl log cl regs (ins j)) ∧ More w wr ∧ wr.cell? ⟨w.heap.size, 0, none⟩ = some (.slice ra rl rc) ∧ wr.cell? ⟨w.heap.size, 1, none⟩ = some (.slice ca cl cc))
    case atStart => exact ⟨0, by omega, rfl, fun j hj => by omega, Hm1.out, He.out.1, He.out.2⟩
    case round =>
      obtain ⟨k, hkg, rfl, hin, m, e0, e1⟩ := hrel
      have Hm : Hid (More w wr ∧ ∀ j, j < k → InsOk rl log cl regs (ins j)) := ⟨m, hin⟩
      clear m hin
      cases gk with
      | zero =>
        obtain rfl : k = cl := by omega
        go_wp2
        go_ret
        exact Says.yes (HP.out.2 ⟨HA.out, Hl.out.1, Hl.out.2, Hm.out.2⟩) Hm.out.1
      | succ g =>
        have hk : k < cl := by omega
        have hk' : (k : Int) < (cl : Int) := by omega
        have hk0 : (0 : Int) ≤ (k : Int) := by omega
        obtain rfl := Hc.out.1 (by omega)
        have hcell := (Hc.out.2.more Hm.out.1) k hk
        cases hI : ins k with
        | mk op a b c n =>
        rw [hI] at hcell
        have HI : Hid (ins k = ⟨op, a, b, c, n⟩) := hI
        clear hI
        obtain ⟨q0, q1, q2, q3, q4⟩ := hcell
        obtain ⟨S, HS⟩ : ∃ S : World → Prop, Hid (∀ w', S w' ↔ More wr w') := ⟨fun w' => More wr w', fun _ => Iff.rfl⟩
        have k0 : ∀ i : { w' // S w' }, i.val.cell? ⟨w.heap.size, 0, none⟩ = some (.slice ra rl rc) := fun i => ((HS.out _).1 i.property).cell e0
        have k1 : ∀ i : { w' // S w' }, i.val.cell? ⟨w.heap.size, 1, none⟩ = some (.slice (some ⟨cb, co, none⟩) cl cc) := fun i => ((HS.out _).1 i.property).cell e1
        have d0 : ∀ i : { w' // S w' }, i.val.cell? ⟨cb, co + k * 5, none⟩ = some (.int .i64 op) := fun i => ((HS.out _).1 i.property).cell q0
        have d1 : ∀ i : { w' // S w' }, i.val.cell? ⟨cb, co + k * 5 + 1, none⟩ = some (.int .i64 a) := fun i => ((HS.out _).1 i.property).cell q1
        have d2 : ∀ i : { w' // S w' }, i.val.cell? ⟨cb, co + k * 5 + 2, none⟩ = some (.int .i64 b) := fun i => ((HS.out _).1 i.property).cell q2
        have d3 : ∀ i : { w' // S w' }, i.val.cell? ⟨cb, co + k * 5 + 3, none⟩ = some (.int .i64 c) := fun i => ((HS.out _).1 i.property).cell q3
        have d4 : ∀ i : { w' // S w' }, i.val.cell? ⟨cb, co + k * 5 + 4, none⟩ = some (.int .i64 n) := fun i => ((HS.out _).1 i.property).cell q4
        have hne : Nonempty { w' // S w' } := ⟨⟨wr, (HS.out _).2 (More.refl _)⟩⟩
        go_wp2_with (fail)
        refine wp_region_ord (S := S) [(0, true), (1, true), (2, true), (3, true), (4, true), (5, true), (6, true), (7, false), (8, true)] (by kernel_rfl) (by kernel_rfl) (by kernel_rfl) ((HS.out _).2 (More.refl _).drew) ?_
        iterate 7 (refine wpOrd_take rfl (by kernel_rfl) (fun K hK => ?_); go_simp; refine hK _ _ ?_; clear hK K)
        refine wpOrd_busy rfl (by kernel_rfl) (fun K hK => ?_); go_simp
        refine (ref_ins ra rl rc _ cl cc op a b c n regs _ rb ro log sec Hr.out.1 (Hr.out.2.more (Hm.out.1.trans (More.refl _).drew)) HA.out).mono ?_
        rintro e w2 ⟨r2, rfl, hr2, m2⟩
        have Hm2 : Hid (More wr w2) := (More.refl _).drew.trans m2
        clear m2
        have e0' := Hm2.out.cell e0
        have e1' := Hm2.out.cell e1
        clear e0 e1
        cases r2 with
        | false =>
          have HF : Hid (¬ InsOk rl log cl regs ⟨op, a, b, c, n⟩) := fun h => by simpa using hr2.2 h
          clear hr2
          go_simp
          refine hK _ _ ((HS.out _).2 Hm2.out) ?_; clear hK K
          refine wpOrd_take rfl (by kernel_rfl) (fun K hK => ?_); go_simp; refine hK _ _ ?_; clear hK K
          refine wpOrd_done ?_
          clear k0 k1 d0 d1 d2 d3 d4 hne q0 q1 q2 q3 q4
          go_wp2
          go_ret
          exact Says.no (fun h => HF.out (HI.out ▸ (HP.out.1 h).2.2.2 k hk)) (Hm.out.1.trans Hm2.out)
        | true =>
          have HF : Hid (InsOk rl log cl regs ⟨op, a, b, c, n⟩) := hr2.1 rfl
          clear hr2
          go_simp
          refine hK _ _ ((HS.out _).2 Hm2.out) ?_; clear hK K
          refine wpOrd_take rfl (by kernel_rfl) (fun K hK => ?_); go_simp; refine hK _ _ ?_; clear hK K
          refine wpOrd_done ?_
          clear k0 k1 d0 d1 d2 d3 d4 hne q0 q1 q2 q3 q4
          go_wp2
          go_roundg g
          case measure => omega
          case rel =>
            refine ⟨k + 1, by omega, by first | rfl | (simp; unfold wrap64; have := Hl.out.2; have := Hcd.out.2; omega), fun j hj => ?_, Hm.out.1.trans Hm2.out, e0', e1'⟩
            by_cases e : j = k
            · subst e; rw [HI.out]; exact HF.out
            · exact Hm.out.2 j (by omega)

theorem ref_may (p : Prg) (l : Loc) (w : World) (h : PIn w p l) :
    Calls Try.prog 15 #[.agg #[.slice l.ra p.rl l.rc, .slice l.ca p.cl l.cc]] w (Says (p.Ok 200 8) w) := by
  have H : Hid (PIn w p l) := h
  clear h
  go_enter Try.func15, Try.ntmps15
  go_wp2_with (fail)
  have m0 : More w (w.alloc (.cells #[.slice l.ra p.rl l.rc, .slice l.ca p.cl l.cc] 30)) := (More.refl _).alloc _ _
  refine (ref_is l.ra p.rl l.rc l.ca p.cl l.cc 200 8 l.rb l.ro l.cb l.co p.log p.sec p.ins _ 200 rfl (by omega) H.out.hr (H.out.regs.more m0) H.out.hc (H.out.code.more m0)).mono ?_
  rintro e w1 ⟨r, rfl, h1, m1⟩
  have H1 : Hid ((r = true ↔ p.Ok 200 8) ∧ More w w1) := ⟨h1, m0.trans m1⟩
  clear h1 m1 m0
  go_wp2
  go_ret
  exact ⟨r, rfl, H1.out.1, H1.out.2⟩

theorem ref_hard (p : Prg) (l : Loc) (w : World) (h : PIn w p l) :
    Calls Try.prog 21 #[.agg #[.slice l.ra p.rl l.rc, .slice l.ca p.cl l.cc]] w (Says (p.Ok 8000 10) w) := by
  have H : Hid (PIn w p l) := h
  clear h
  go_enter Try.func21, Try.ntmps21
  go_wp2_with (fail)
  have m0 : More w (w.alloc (.cells #[.slice l.ra p.rl l.rc, .slice l.ca p.cl l.cc] 30)) := (More.refl _).alloc _ _
  refine (ref_is l.ra p.rl l.rc l.ca p.cl l.cc 8000 10 l.rb l.ro l.cb l.co p.log p.sec p.ins _ 8000 rfl (by omega) H.out.hr (H.out.regs.more m0) H.out.hc (H.out.code.more m0)).mono ?_
  rintro e w1 ⟨r, rfl, h1, m1⟩
  have H1 : Hid ((r = true ↔ p.Ok 8000 10) ∧ More w w1) := ⟨h1, m0.trans m1⟩
  clear h1 m1 m0
  go_wp2
  go_ret
  exact ⟨r, rfl, H1.out.1, H1.out.2⟩

set_option maxHeartbeats 1000000 in
theorem ref_fits (ra : Option Addr) (rl rc : Nat) (ca : Option Addr) (cl cc : Nat) (ma : Option Addr) (ml mc : Nat) (rb ro mb mo : Nat) (log : Nat → Int) (sec : Nat → Bool) (A : Nat → Option Addr) (L C : Nat → Nat) (w : World)
    (hra : 0 < rl → ra = some ⟨rb, ro, none⟩) (hr : RegsAt w rb ro rl log sec) (hma : 0 < ml → ma = some ⟨mb, mo, none⟩) (hm : ListsAt w mb mo ml A L C) :
    Calls Try.prog 16 #[.agg #[.slice ra rl rc, .slice ca cl cc], .slice ma ml mc] w (Says (FitsOk rl log ml L) w) := by
  have Hr : Hid ((0 < rl → ra = some ⟨rb, ro, none⟩) ∧ RegsAt w rb ro rl log sec) := ⟨hra, hr⟩
  have Hl : Hid ((0 < ml → ma = some ⟨mb, mo, none⟩) ∧ ListsAt w mb mo ml A L C) := ⟨hma, hm⟩
  obtain ⟨Pr, HP⟩ : ∃ Pr : Prop, Hid (Pr ↔ FitsOk rl log ml L) := ⟨_, Iff.rfl⟩
  rw [← propext HP.out]
  clear hra hr hma hm
  go_enter Try.func16, Try.ntmps16
  go_wp2_with (fail)
  refine (ref_regions ra rl rc ca cl cc rb ro log sec _ Hr.out.1 (Hr.out.2.more ((More.refl _).alloc _ _))).mono ?_
  rintro e w1 ⟨r, rfl, h, m1⟩
  have e0 : w1.cell? ⟨w.heap.size, 0, none⟩ = some (.slice ra rl rc) := m1.cell (by go_simp)
  have e1 : w1.cell? ⟨w.heap.size, 1, none⟩ = some (.slice ca cl cc) := m1.cell (by go_simp)
  have Hm1 : Hid (More w w1) := ((More.refl _).alloc _ _).trans m1
  clear m1
  cases r with
  | false =>
    have HA : Hid (¬ RegionsOk rl log) := fun k => by simpa using h.2 k
    clear h
    go_wp2
    go_ret
    exact Says.no (fun h => HA.out (HP.out.1 h).1) Hm1.out
  | true =>
    have HA : Hid (RegionsOk rl log) := h.1 rfl
    clear h
    by_cases hne : (ml : Int) = (rl : Int)
    · have Hml : Hid (ml = rl) := (by omega : ml = rl)
      have h6 : ml ≤ 6 := by have := HA.out.1; have := Hml.out; omega
      have hne' : ((ml : Int) != (rl : Int)) = false := by simp [hne]
      have Hle : Hid ((ml : Int) ≤ (rl : Int)) := by rw [hne]; exact Int.le_refl _
      clear hne
      have He : Hid (w1.cell? ⟨w.heap.size, 0, none⟩ = some (.slice ra rl rc) ∧ w1.cell? ⟨w.heap.size, 1, none⟩ = some (.slice ca cl cc)) := ⟨e0, e1⟩
      go_wp2
      clear e0 e1 hne'
      go_loopg [5] ml (fun g i wr => ∃ k : Nat, k + g = ml ∧ i = .int .i64 k ∧ (∀ j, j < k → (L j : Int) = wordsI (log j)) ∧ More w wr ∧ wr.cell? ⟨w.heap.size, 0, none⟩ = some (.slice ra rl rc) ∧ wr.cell? ⟨w.heap.size, 1, none⟩ = some (.slice ca cl cc))
      case atStart => exact ⟨0, by omega, rfl, fun j hj => by omega, Hm1.out, He.out.1, He.out.2⟩
      case round =>
        obtain ⟨k, hkg, rfl, hin, m, e0, e1⟩ := hrel
        have Hm : Hid (More w wr ∧ ∀ j, j < k → (L j : Int) = wordsI (log j)) := ⟨m, hin⟩
        clear m hin
        cases gk with
        | zero =>
          obtain rfl : k = ml := by omega
          go_wp2
          go_ret
          exact Says.yes (HP.out.2 ⟨HA.out, Hml.out, fun i hi => Hm.out.2 i (by have := Hml.out; omega)⟩) Hm.out.1
        | succ g =>
          have hk : k < ml := by omega
          have hkr : k < rl := by have := Hml.out; omega
          have hk' : (k : Int) < (ml : Int) := by omega
          have hkr' : (k : Int) < (rl : Int) := by omega
          have hk0 : (0 : Int) ≤ (k : Int) := by omega
          obtain rfl := Hr.out.1 (by omega)
          obtain rfl := Hl.out.1 (by omega)
          have q0 := ((Hr.out.2.more Hm.out.1) k hkr).1
          have q1 := ((Hr.out.2.more Hm.out.1) k hkr).2
          have Hlog : Hid (0 ≤ log k ∧ log k ≤ 6) := HA.out.2 k hkr
          obtain ⟨lk, hlk⟩ : ∃ x, log k = x := ⟨_, rfl⟩
          rw [hlk] at q0 Hlog
          have Hlk : Hid (log k = lk) := hlk
          clear hlk
          go_wp2_with (fail)
          obtain ⟨nw, hnw⟩ : ∃ x, wordsI lk = x := ⟨_, rfl⟩
          refine (ref_words lk Hlog.out.1 Hlog.out.2 (sec k) _).mono ?_
          rw [hnw]
          have Hnw : Hid (wordsI (log k) = nw) := by rw [Hlk.out]; exact hnw
          clear hnw q0 q1
          rintro e w2 ⟨rfl, m2⟩
          have e0' := m2.cell e0
          have e1' := m2.cell e1
          have Hm2 : Hid (More w w2) := Hm.out.1.trans m2
          clear m2 e0 e1
          have q2 := (Hl.out.2.more Hm2.out) k hk
          by_cases hq : (L k : Int) = nw
          · have Hq : Hid ((L k : Int) = nw) := hq
            have heq : ((L k : Int) != nw) = false := by simp [hq]
            clear hq
            go_wp2
            go_roundg g
            case measure => omega
            case rel =>
              refine ⟨k + 1, by omega, by first | rfl | (simp; unfold wrap64; omega), fun j hj => ?_, Hm2.out, e0', e1'⟩
              by_cases e : j = k
              · subst e; rw [Hq.out, Hnw.out]
              · exact Hm.out.2 j (by omega)
          · have Hq : Hid (¬ (L k : Int) = nw) := hq
            have heq' : ((L k : Int) != nw) = true := by simp [hq]
            clear hq
            go_wp2
            go_ret
            exact Says.no (fun h => Hq.out (by rw [← Hnw.out]; exact (HP.out.1 h).2.2 k hkr)) Hm2.out
    · have T : Hid (¬ ml = rl) := fun e => hne (by rw [e])
      have hne' : ((ml : Int) != (rl : Int)) = true := by simp; omega
      clear hne
      go_wp2
      go_ret
      exact Says.no (fun h => T.out (HP.out.1 h).2.1) Hm1.out

end Go.Proofs.Ytkeeimdhlbdigab

/-
  What a program and a memory that were handed in lie like: read off the data that the statement speaks of.
-/
namespace Go.Proofs.Ytkeeimdhlbdigab
open Go.ChangeShapes Go.WideShapes Go.ChangeAt Go.RowKit Go.Deep Go.Joins
set_option maxRecDepth 8000

theorem cells47 : Try.prog.cellsOf 74 = 2 := by kernel_rfl
theorem cells34 : Try.prog.cellsOf 67 = 5 := by kernel_rfl
theorem cells29 : Try.prog.cellsOf 30 = 2 := by kernel_rfl
theorem cells48 : Try.prog.cellsOf 78 = 1 := by kernel_rfl
theorem cells2 : Try.prog.cellsOf 2 = 1 := by kernel_rfl
theorem cells3 : Try.prog.cellsOf 3 = 1 := by kernel_rfl
theorem cells4 : Try.prog.cellsOf 4 = 1 := by kernel_rfl

def I64 (x : Int) : Prop := -9223372036854775808 ≤ x ∧ x ≤ 9223372036854775807
def Ins.fits (i : Ins) : Prop := I64 i.op ∧ I64 i.a ∧ I64 i.b ∧ I64 i.c ∧ I64 i.n

/-- What holds of every program that is handed in: the lengths and numbers are such as Go has. -/
structure Prg.Fit (p : Prg) : Prop where
  rl : p.rl ≤ maxLen
  cl : p.cl ≤ maxLen
  log : ∀ i, i < p.rl → I64 (p.log i)
  ins : ∀ i, i < p.cl → (p.ins i).fits

section
variable {H : Type} {enc : TypeId × Value → H} {W : World} {base : Nat} {held : Bool}

theorem plain_addr {a : Addr} {v : Value} (h : W.cell? a = some v) : a = ⟨a.block, a.off, none⟩ := by
  have := World.cell?_spot h
  cases a
  simp_all

theorem open_regs {fuel : Nat} {cs : List Value} {x : DataW H × List MemPlace} (h : DataW.trod enc Try.prog W base (fun _ => true) held fuel 27 cs = some x) :
    ∃ (ra : Option Addr) (rb ro rl rc : Nat) (log : Nat → Int) (sec : Nat → Bool), cs = [.slice ra rl rc] ∧ (0 < rl → ra = some ⟨rb, ro, none⟩) ∧ RegsAt W rb ro rl log sec ∧ rl ≤ rc ∧ rc ≤ maxLen ∧ ∀ i, i < rl → I64 (log i) := by
  rcases open_slice Try.underlying27 h with ⟨rfl, _⟩ | ⟨a, len, cap, m, n, D, Pl, rfl, hb, hl, hm, hmm, rfl, hx⟩
  · exact ⟨none, 0, 0, 0, 0, fun _ => 0, fun _ => false, rfl, fun h => by omega, fun i hi => by omega, Nat.le_refl _, Nat.zero_le _, fun i hi => by omega⟩
  have hlm : len ≤ m := by rw [hmm]; simpa using hl
  have each : ∀ i, i < len → ∃ q : Int × Bool, W.cell? (a.add (i * 2)) = some (.int .i64 q.1) ∧ W.cell? (a.add (i * 2 + 1)) = some (.bool q.2) ∧ I64 q.1 := by
    intro i hi
    obtain ⟨cs', h1, h2⟩ := hx i (by omega)
    rw [cells47] at h1
    obtain ⟨_, hlen, hcell⟩ := World.cells?_some h1
    obtain ⟨xs, k, hk, hxy, _, hxl, hf⟩ := DataW.trod_struct Try.underlying74 h2
    match cs', hlen with
    | [v0, v1], _ =>
      have g0 := hf 0 _ rfl
      have g1 := hf 1 _ rfl
      have e0 := hcell 0 (by omega)
      have e1 := hcell 1 (by omega)
      rw [add_add] at e0 e1
      simp [cells3, cells4] at g0 g1
      match xs, hxl with
      | [y0, y1], _ =>
        simp at g0 g1
        obtain ⟨z, hz, _, wz⟩ := DataW.trod_int Try.underlying3 g0
        obtain ⟨s, hs, _⟩ := DataW.trod_bool Try.underlying4 g1
        simp at hz hs e0 e1
        subst hz hs
        exact ⟨(z, s), e0, e1, bounds_i64 wz⟩
  obtain ⟨q, hq⟩ := choose_lt each
  refine ⟨some a, a.block, a.off, len, cap, fun i => (q i).1, fun i => (q i).2, rfl, fun h0 => ?_, fun i hi => ?_, hl, hm, fun i hi => (hq i hi).2.2⟩
  · have h1 := (hq 0 h0).1
    simp [Addr.add] at h1
    rw [← plain_addr h1]
  · have h1 := (hq 0 (by omega)).1
    simp [Addr.add] at h1
    have ha := plain_addr h1
    obtain ⟨b, o, s⟩ := a
    simp at ha
    subst ha
    have := hq i hi
    rw [add_plain, add_plain] at this
    exact ⟨by simpa using this.1, by have := this.2.1; simpa [Nat.add_assoc] using this⟩

theorem open_code {fuel : Nat} {cs : List Value} {x : DataW H × List MemPlace} (h : DataW.trod enc Try.prog W base (fun _ => true) held fuel 28 cs = some x) :
    ∃ (ca : Option Addr) (cb co cl cc : Nat) (ins : Nat → Ins), cs = [.slice ca cl cc] ∧ (0 < cl → ca = some ⟨cb, co, none⟩) ∧ CodeAt W cb co cl ins ∧ cl ≤ cc ∧ cc ≤ maxLen ∧ ∀ i, i < cl → (ins i).fits := by
  rcases open_slice Try.underlying28 h with ⟨rfl, _⟩ | ⟨a, len, cap, m, n, D, Pl, rfl, hb, hl, hm, hmm, rfl, hx⟩
  · exact ⟨none, 0, 0, 0, 0, fun _ => ⟨0, 0, 0, 0, 0⟩, rfl, fun h => by omega, fun i hi => by omega, Nat.le_refl _, Nat.zero_le _, fun i hi => by omega⟩
  have hlm : len ≤ m := by rw [hmm]; simpa using hl
  have each : ∀ i, i < len → ∃ q : Int × Int × Int × Int × Int, W.cell? (a.add (i * 5)) = some (.int .i64 q.1) ∧ W.cell? (a.add (i * 5 + 1)) = some (.int .i64 q.2.1) ∧ W.cell? (a.add (i * 5 + 2)) = some (.int .i64 q.2.2.1) ∧
      W.cell? (a.add (i * 5 + 3)) = some (.int .i64 q.2.2.2.1) ∧ W.cell? (a.add (i * 5 + 4)) = some (.int .i64 q.2.2.2.2) ∧ I64 q.1 ∧ I64 q.2.1 ∧ I64 q.2.2.1 ∧ I64 q.2.2.2.1 ∧ I64 q.2.2.2.2 := by
    intro i hi
    obtain ⟨cs', h1, h2⟩ := hx i (by omega)
    rw [cells34] at h1
    obtain ⟨_, hlen, hcell⟩ := World.cells?_some h1
    obtain ⟨xs, k, hk, hxy, _, hxl, hf⟩ := DataW.trod_struct Try.underlying67 h2
    match cs', hlen with
    | [v0, v1, v2, v3, v4], _ =>
      have g0 := hf 0 _ rfl
      have g1 := hf 1 _ rfl
      have g2 := hf 2 _ rfl
      have g3 := hf 3 _ rfl
      have g4 := hf 4 _ rfl
      have e0 := hcell 0 (by omega)
      have e1 := hcell 1 (by omega)
      have e2 := hcell 2 (by omega)
      have e3 := hcell 3 (by omega)
      have e4 := hcell 4 (by omega)
      rw [add_add] at e0 e1 e2 e3 e4
      simp [cells3, cells2] at g0 g1 g2 g3 g4
      match xs, hxl with
      | [y0, y1, y2, y3, y4], _ =>
        simp at g0 g1 g2 g3 g4
        obtain ⟨z0, hz0, _, wz0⟩ := DataW.trod_int Try.underlying3 g0
        obtain ⟨z1, hz1, _, wz1⟩ := DataW.trod_int Try.underlying3 g1
        obtain ⟨z2, hz2, _, wz2⟩ := DataW.trod_int Try.underlying3 g2
        obtain ⟨z3, hz3, _, wz3⟩ := DataW.trod_int Try.underlying3 g3
        obtain ⟨z4, hz4, _, wz4⟩ := DataW.trod_int Try.underlying2 g4
        simp at hz0 hz1 hz2 hz3 hz4 e0 e1 e2 e3 e4
        subst hz0 hz1 hz2 hz3 hz4
        exact ⟨(z0, z1, z2, z3, z4), e0, e1, e2, e3, e4, bounds_i64 wz0, bounds_i64 wz1, bounds_i64 wz2, bounds_i64 wz3, bounds_i64 wz4⟩
  obtain ⟨q, hq⟩ := choose_lt each
  refine ⟨some a, a.block, a.off, len, cap, fun i => ⟨(q i).1, (q i).2.1, (q i).2.2.1, (q i).2.2.2.1, (q i).2.2.2.2⟩, rfl, fun h0 => ?_, fun i hi => ?_, hl, hm, fun i hi => (hq i hi).2.2.2.2.2⟩
  · have h1 := (hq 0 h0).1
    simp [Addr.add] at h1
    rw [← plain_addr h1]
  · have h1 := (hq 0 (by omega)).1
    simp [Addr.add] at h1
    have ha := plain_addr h1
    obtain ⟨b, o, s⟩ := a
    simp at ha
    subst ha
    have := hq i hi
    rw [add_plain, add_plain, add_plain, add_plain, add_plain] at this
    obtain ⟨t0, t1, t2, t3, t4, _⟩ := this
    exact ⟨by simpa using t0, by simpa [Nat.add_assoc] using t1, by simpa [Nat.add_assoc] using t2, by simpa [Nat.add_assoc] using t3, by simpa [Nat.add_assoc] using t4⟩

theorem open_prog {v : Value} {d : DataW H} {ps : List MemPlace} {r : Reach} {b0 : Nat} (hv : Value.okWide Try.prog W r b0 30 v) (h : DataW.Trod enc Try.prog W base (fun _ => true) held 30 v d ps) :
    ∃ (p : Prg) (l : Loc), v = .agg #[.slice l.ra p.rl l.rc, .slice l.ca p.cl l.cc] ∧ PIn W p l ∧ p.Fit := by
  obtain ⟨v0, v1, y0, y1, n, rfl, rfl, rfl, h0, h1⟩ := open_agg2 Try.underlying30 (by kernel_rfl) cells29 hv h
  obtain ⟨ra, rb, ro, rl, rc, log, sec, e0, hra, hr, hrc, hrm, hlog⟩ := open_regs h0
  obtain ⟨ca, cb, co, cl, cc, ins, e1, hca, hc, hcc, hcm, hins⟩ := open_code h1
  simp at e0 e1
  subst e0 e1
  exact ⟨⟨rl, log, sec, cl, ins⟩, ⟨ra, rb, ro, rc, ca, cb, co, cc⟩, rfl, ⟨hra, hca, hr, hc⟩, ⟨Nat.le_trans hrc hrm, Nat.le_trans hcc hcm, hlog, hins⟩⟩

end
end Go.Proofs.Ytkeeimdhlbdigab
