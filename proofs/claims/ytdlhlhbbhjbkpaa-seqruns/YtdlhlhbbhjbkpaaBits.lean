/-
  What a call of evenkeelref1.Bits and of evenkeelref1.Of does: a number's 64 bits, and the number of 64 bits.
-/
import Derived.Test.YtdlhlhbbhjbkpaaProg
import Derived.WalkKit
import Derived.WalkSpells
import Derived.WalkLawsBesides
import Derived.Deep.WholeRow
import Derived.Deep.LoopGhost
import Derived.Test.YtdlhlhbbhjbkpaaArr
namespace Go.Proofs.Ytdlhlhbbhjbkpaa
open Go.RowKit

theorem info29 : (Try.prog.info? 50).map (·.size) = some 64 := by kernel_rfl
theorem info_arr (f : Nat → Bool) : (Try.prog.info? 50).map (·.size) = some (arr f).size := by rw [arr_size]; exact info29

theorem setRow_alloc2 (w : World) (c c' : Array Value) (t : TypeId) (o : Obj) :
    ((w.alloc (.cells c t)).alloc o).setRow w.heap.size c' = (w.alloc (.cells c' t)).alloc o := by
  simp only [World.setRow, World.alloc]
  congr 1
  apply Array.ext_getElem?
  intro i
  rw [Array.getElem?_modify]
  by_cases h : w.heap.size = i
  · subst h
    simp [Array.getElem?_push]
  · have h' : ¬ i = w.heap.size := fun e => h e.symm
    simp [h, h', Array.getElem?_push]

/-- The first bits of a number, the others not yet. -/
def part (u k : Nat) : Array Value := arr (fun i => decide (i < k) && u.testBit i)

theorem part_zero (u : Nat) : part u 0 = Array.replicate 64 (.bool false) := by
  rw [← arr_zero]; exact arr_ext fun i _ => by simp
theorem part_all (u : Nat) : part u 64 = arr (fun i => u.testBit i) := arr_ext fun i hi => by simp [hi]
theorem part_next (u k : Nat) (b : Bool) (h : u.testBit k = b) : (part u k).setIfInBounds k (.bool b) = part u (k + 1) := by
  unfold part
  rw [arr_set]
  apply arr_ext
  intro i hi
  by_cases e : i = k
  · subst e; simp [h]
  · have : (i < k + 1) ↔ (i < k) := by omega
    simp [e, this]

set_option maxHeartbeats 400000 in
theorem bits_calls (a : Int) (h0 : -9223372036854775808 ≤ a) (h1 : a ≤ 9223372036854775807) (w : World) :
    Calls Try.prog 28 #[.int .i64 a] w fun e w' => e = .returned (.agg (arr (fun i => (toU a).testBit i))) ∧ More w w' := by
  rw [← part_all]
  go_enter Try.func28, Try.ntmps28
  go_wp2
  go_loopg [0, 4] 64 (fun g n i wr => ∃ (k : Nat) (m : Int), k + g = 64 ∧ a / 2 ^ k = m ∧ -9223372036854775808 ≤ m ∧ m ≤ 9223372036854775807 ∧ i = .int .i64 k ∧ n = .int .i64 m ∧ wr = (w.alloc (.cells (part (toU a) 0) 50)).alloc (.cells (part (toU a) k) 50))
  case atStart => exact ⟨0, a, by omega, by simp, h0, h1, rfl, rfl, by rw [part_zero]; rfl⟩
  case round =>
    obtain ⟨k, n, hkg, hn, b0, b1, rfl, rfl, rfl⟩ := hrel
    cases gk with
    | zero =>
      obtain rfl : k = 64 := by omega
      have hi29 : (Try.prog.info? 50).map (·.size) = some (part (toU a) 64).size := info_arr _
      have hg1 := heap_alloc2_new w (.cells (part (toU a) 0) 50) (.cells (part (toU a) 64) 50)
      have hg0 := heap_alloc2_old w (.cells (part (toU a) 0) 50) (.cells (part (toU a) 64) 50)
      have hold : (part (toU a) 0).size = (part (toU a) 64).size := by unfold part; rw [arr_size, arr_size]
      have hall : (part (toU a) 64).all (·.oneCell') = true := arr_one _
      go_wp2_with (first | (refine wpList_load_row rfl 50 (.tmp 3) rfl (w.heap.size + 1) rfl 50 _ (0, 0) _ hg1 Try.underlying50 rfl hi29 ?_) | (refine wpList_store_row rfl 50 (.tmp 2) (.tmp 24) rfl w.heap.size _ rfl rfl 50 _ hg0 hi29 hold hall ?_; rw [setRow_alloc2]))
      refine bodyPost_ret (results_cell_row rfl _ _ w.heap.size 50 (part (toU a) 64) (0, 0) _ rfl (heap_alloc2_old _ _ _) Try.underlying50 rfl hi29) rfl ⟨rfl, by repeat (first | exact More.refl _ | apply More.drew | apply More.alloc)⟩
    | succ g =>
      have hk : k < 64 := by omega
      have hk' : (k : Int) < 64 := by omega
      have hb := half_bit a k hk
      have hnx := half_next a k
      rw [hn] at hb hnx
      have hcs : (part (toU a) k)[k]? = some (.bool false) := by
        unfold part; rw [arr_get _ _ hk]; simp
      have hsz : (part (toU a) k).size = 64 := by unfold part; exact arr_size _
      have Hb : Hid ((toU a).testBit k = decide (n % 2 = 1)) := hb
      have Hx : Hid (a / 2 ^ (k + 1) = n / 2) := hnx
      clear hb hnx
      by_cases hr : n % 2 = 0
      · have hr1 : n.tmod 2 = 0 := Int.tmod_eq_zero_of_dvd (Int.dvd_of_emod_eq_zero hr)
        have hd : n.tdiv 2 = n / 2 := Int.tdiv_eq_ediv_of_dvd (Int.dvd_of_emod_eq_zero hr)
        go_wp2
        go_roundg g
        case measure => omega
        case rel => exact ⟨k + 1, n / 2, by omega, Hx.out, by omega, by omega, by first | rfl | simp, rfl, by rw [← part_next (toU a) k false (by rw [Hb.out]; simp [hr])]⟩
      · have hs : (n - 1).tdiv 2 = n / 2 := by rw [Int.tdiv_eq_ediv_of_dvd (by omega)]; omega
        by_cases hp : 0 ≤ n
        · have hr1 : n.tmod 2 = 1 := by rw [Int.tmod_eq_emod_of_nonneg hp]; omega
          go_wp2
          go_roundg g
          case measure => omega
          case rel => exact ⟨k + 1, n / 2, by omega, Hx.out, by omega, by omega, by first | rfl | simp, rfl, by rw [← part_next (toU a) k true (by rw [Hb.out]; simp; omega)]⟩
        · have hr1 : n.tmod 2 = -1 := by rw [Int.tmod_eq_emod, if_neg (by omega)]; omega
          go_wp2
          go_roundg g
          case measure => omega
          case rel => exact ⟨k + 1, n / 2, by omega, Hx.out, by omega, by omega, by first | rfl | simp, rfl, by rw [← part_next (toU a) k true (by rw [Hb.out]; simp; omega)]⟩

theorem wrap_sum (x y : Int) : wrap64 (wrap64 x + wrap64 y) = wrap64 (x + y) := by unfold wrap64; omega

theorem val_yes (f : Nat → Bool) (k : Nat) (s p : Int) (hs : s = wrap64 (val f k : Nat)) (hp : p = wrap64 ((2 ^ k : Nat) : Int)) (h : f k = true) : wrap64 (s + p) = wrap64 (val f (k + 1) : Nat) := by
  subst hs; subst hp
  rw [wrap_sum, val, if_pos h]; push_cast; rfl
theorem val_no (f : Nat → Bool) (k : Nat) (s : Int) (hs : s = wrap64 (val f k : Nat)) (h : f k = false) : s = wrap64 (val f (k + 1) : Nat) := by
  rw [hs, val, h]; simp
theorem pow_next (k : Nat) (p : Int) (hp : p = wrap64 ((2 ^ k : Nat) : Int)) : wrap64 (p + p) = wrap64 ((2 ^ (k + 1) : Nat) : Int) := by
  subst hp
  rw [wrap_sum, Nat.pow_succ]; push_cast; congr 1; omega

set_option maxHeartbeats 400000 in
theorem of_cells (f : Nat → Bool) (c : Array Value) (hsz : c.size = 64) (hc : ∀ i, i < 64 → c[i]? = some (.bool (f i))) (w : World) :
    Calls Try.prog 53 #[.agg c] w fun e w' => e = .returned (.int .i64 (wrap64 ((val f 64 : Nat) : Int))) ∧ More w w' := by
  have Hc : Hid (∀ i, i < 64 → c[i]? = some (.bool (f i))) := hc
  clear hc
  go_enter Try.func53, Try.ntmps53
  go_wp2
  go_loopg [3, 4, 5] 64 (fun g sv pv i wr => ∃ (k : Nat) (s p : Int), k + g = 64 ∧ s = wrap64 ((val f k : Nat) : Int) ∧ p = wrap64 ((2 ^ k : Nat) : Int) ∧ sv = .int .i64 s ∧ pv = .int .i64 p ∧ i = .int .i64 k ∧ wr = w.alloc (.cells c 50))
  case atStart => exact ⟨0, 0, 1, by omega, by unfold val wrap64; omega, by unfold wrap64; omega, rfl, rfl, rfl, rfl⟩
  case round =>
    obtain ⟨k, s, p, hkg, hs, hp, rfl, rfl, rfl, rfl⟩ := hrel
    have Hs : Hid (s = wrap64 ((val f k : Nat) : Int)) := hs
    have Hp : Hid (p = wrap64 ((2 ^ k : Nat) : Int)) := hp
    clear hs hp
    cases gk with
    | zero =>
      obtain rfl : k = 64 := by omega
      go_wp2
      go_ret
      exact ⟨congrArg (fun n => Ending.returned (.int .i64 n)) Hs.out, by repeat (first | exact More.refl _ | apply More.drew | apply More.alloc)⟩
    | succ g =>
      have hk : k < 64 := by omega
      have hk' : (k : Int) < 64 := by omega
      cases hf : f k with
      | true =>
        have hcs : c[k]'(by omega) = .bool true := by have h := Hc.out k hk; rw [hf] at h; exact (Array.getElem?_eq_some_iff.1 h).2
        have Hf : Hid (f k = true) := hf
        clear hf
        go_wp2
        go_roundg g
        case measure => omega
        case rel => exact ⟨k + 1, _, _, by omega, val_yes f k s p Hs.out Hp.out Hf.out, pow_next k p Hp.out, rfl, rfl, by first | rfl | simp, rfl⟩
      | false =>
        have hcs : c[k]'(by omega) = .bool false := by have h := Hc.out k hk; rw [hf] at h; exact (Array.getElem?_eq_some_iff.1 h).2
        have Hf : Hid (f k = false) := hf
        clear hf
        go_wp2
        go_roundg g
        case measure => omega
        case rel => exact ⟨k + 1, _, _, by omega, val_no f k s Hs.out Hf.out, pow_next k p Hp.out, rfl, rfl, by first | rfl | simp, rfl⟩

theorem of_calls (f : Nat → Bool) (w : World) :
    Calls Try.prog 53 #[.agg (arr f)] w fun e w' => e = .returned (.int .i64 (wrap64 ((val f 64 : Nat) : Int))) ∧ More w w' :=
  of_cells f (arr f) (arr_size f) (fun i hi => arr_get f i hi) w

end Go.Proofs.Ytdlhlhbbhjbkpaa
