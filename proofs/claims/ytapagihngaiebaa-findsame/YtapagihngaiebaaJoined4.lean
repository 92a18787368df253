/-
  The texts Shape, Arr, Bits, Bitwise, Shift, Divide, Ref, RefStep, InsBox, InsA, one behind the other, with what is used of them.
-/
import Derived.Test.YtapagihngaiebaaRows
import Derived.WalkKit
import Derived.Deep.LoopGhost
import Derived.Test.YtapagihngaiebaaJoined0
import Derived.Deep.WholeRow
import Derived.Test.YtapagihngaiebaaProg
import Derived.WalkSpells
import Derived.WalkLawsBesides
import Derived.RegionTactic
import Derived.ChangeAlike
namespace Go.Proofs.Ytapagihngaiebaa
section
open Go.RowKit
def tri (x y z : Int) (j : Nat) : Int := if j = 0 then x else if j = 1 then y else z
theorem tri_cells {w : World} {g : Nat} {x y z : Int} (h0 : w.cell? ⟨g, 0, none⟩ = some (.int .i64 x)) (h1 : w.cell? ⟨g, 1, none⟩ = some (.int .i64 y)) (h2 : w.cell? ⟨g, 2, none⟩ = some (.int .i64 z)) :
    ∀ j, j < 3 → w.cell? ⟨g, j, none⟩ = some (.int .i64 (tri x y z j)) := by
  intro j hj
  have : j = 0 ∨ j = 1 ∨ j = 2 := by omega
  rcases this with rfl | rfl | rfl
  · exact h0
  · exact h1
  · exact h2

/-- What a shape is told as. -/
def Shape (x y z : Int) (num : Bool) (w : World) (e : Ending) (w' : World) : Prop :=
  ∃ g : Nat, e = .returned (.tuple #[.slice (some ⟨g, 0, none⟩) 3 3, .bool num, .bool true]) ∧ (∀ j, j < 3 → w'.cell? ⟨g, j, none⟩ = some (.int .i64 (tri x y z j))) ∧ More w w'

theorem shape_1 (w : World) : Calls Try.prog 82 #[.int .i64 1] w (Shape 1 0 0 true w) := by
  go_enter Try.func82, Try.ntmps82
  go_wp2
  go_ret3
  exact ⟨w.heap.size, rfl, tri_cells (by go_simp) (by go_simp) (by go_simp), (More.refl _).alloc _ _⟩

theorem shape_2 (w : World) : Calls Try.prog 82 #[.int .i64 2] w (Shape 1 1 0 false w) := by
  go_enter Try.func82, Try.ntmps82
  go_wp2
  go_ret3
  exact ⟨w.heap.size, rfl, tri_cells (by go_simp) (by go_simp) (by go_simp), (More.refl _).alloc _ _⟩

theorem shape_3 (w : World) : Calls Try.prog 82 #[.int .i64 3] w (Shape 1 1 2 true w) := by
  go_enter Try.func82, Try.ntmps82
  go_wp2
  go_ret3
  exact ⟨w.heap.size, rfl, tri_cells (by go_simp) (by go_simp) (by go_simp), (More.refl _).alloc _ _⟩

theorem shape_4 (w : World) : Calls Try.prog 82 #[.int .i64 4] w (Shape 1 1 2 true w) := by
  go_enter Try.func82, Try.ntmps82
  go_wp2
  go_ret3
  exact ⟨w.heap.size, rfl, tri_cells (by go_simp) (by go_simp) (by go_simp), (More.refl _).alloc _ _⟩

theorem shape_5 (w : World) : Calls Try.prog 82 #[.int .i64 5] w (Shape 1 0 2 true w) := by
  go_enter Try.func82, Try.ntmps82
  go_wp2
  go_ret3
  exact ⟨w.heap.size, rfl, tri_cells (by go_simp) (by go_simp) (by go_simp), (More.refl _).alloc _ _⟩

theorem shape_6 (w : World) : Calls Try.prog 82 #[.int .i64 6] w (Shape 1 0 2 true w) := by
  go_enter Try.func82, Try.ntmps82
  go_wp2
  go_ret3
  exact ⟨w.heap.size, rfl, tri_cells (by go_simp) (by go_simp) (by go_simp), (More.refl _).alloc _ _⟩

theorem shape_7 (w : World) : Calls Try.prog 82 #[.int .i64 7] w (Shape 0 0 0 true w) := by
  go_enter Try.func82, Try.ntmps82
  go_wp2
  go_ret3
  exact ⟨w.heap.size, rfl, tri_cells (by go_simp) (by go_simp) (by go_simp), (More.refl _).alloc _ _⟩

theorem shape_8 (w : World) : Calls Try.prog 82 #[.int .i64 8] w (Shape 1 1 2 true w) := by
  go_enter Try.func82, Try.ntmps82
  go_wp2
  go_ret3
  exact ⟨w.heap.size, rfl, tri_cells (by go_simp) (by go_simp) (by go_simp), (More.refl _).alloc _ _⟩

theorem shape_9 (w : World) : Calls Try.prog 82 #[.int .i64 9] w (Shape 1 0 0 false w) := by
  go_enter Try.func82, Try.ntmps82
  go_wp2
  go_ret3
  exact ⟨w.heap.size, rfl, tri_cells (by go_simp) (by go_simp) (by go_simp), (More.refl _).alloc _ _⟩

theorem shape_10 (w : World) : Calls Try.prog 82 #[.int .i64 10] w (Shape 1 1 0 true w) := by
  go_enter Try.func82, Try.ntmps82
  go_wp2
  go_ret3
  exact ⟨w.heap.size, rfl, tri_cells (by go_simp) (by go_simp) (by go_simp), (More.refl _).alloc _ _⟩

theorem shape_11 (w : World) : Calls Try.prog 82 #[.int .i64 11] w (Shape 1 0 0 true w) := by
  go_enter Try.func82, Try.ntmps82
  go_wp2
  go_ret3
  exact ⟨w.heap.size, rfl, tri_cells (by go_simp) (by go_simp) (by go_simp), (More.refl _).alloc _ _⟩

theorem shape_12 (w : World) : Calls Try.prog 82 #[.int .i64 12] w (Shape 0 0 0 false w) := by
  go_enter Try.func82, Try.ntmps82
  go_wp2
  go_ret3
  exact ⟨w.heap.size, rfl, tri_cells (by go_simp) (by go_simp) (by go_simp), (More.refl _).alloc _ _⟩

theorem shape_op (op : Int) (h1 : 20 < op) (h2 : op ≤ 30) (w : World) : Calls Try.prog 82 #[.int .i64 op] w (Shape 1 1 1 false w) := by
  go_enter Try.func82, Try.ntmps82
  go_wp2
  go_ret3
  exact ⟨w.heap.size, rfl, tri_cells (by go_simp) (by go_simp) (by go_simp), (More.refl _).alloc _ _⟩

theorem shape_else (op : Int) (h1 : ¬ op = 1) (h2 : ¬ op = 2) (h3 : ¬ op = 3) (h4 : ¬ op = 4) (h5 : ¬ op = 5) (h6 : ¬ op = 6) (h7 : ¬ op = 7) (h8 : ¬ op = 8) (h9 : ¬ op = 9) (h10 : ¬ op = 10) (h11 : ¬ op = 11) (h12 : ¬ op = 12) (h : ¬ (20 < op ∧ op ≤ 30)) (w : World) : Calls Try.prog 82 #[.int .i64 op] w fun e w' => e = .returned (.tuple #[.slice none 0 0, .bool false, .bool false]) ∧ w' = w := by
  by_cases h20 : 20 < op
  · have h30 : ¬ op ≤ 30 := fun k => h ⟨h20, k⟩
    clear h
    go_enter Try.func82, Try.ntmps82
    go_wp2
    go_ret3
    exact ⟨rfl, rfl⟩
  · clear h
    go_enter Try.func82, Try.ntmps82
    go_wp2
    go_ret3
    exact ⟨rfl, rfl⟩

set_option maxHeartbeats 400000 in
theorem ref_regions (ra : Option Addr) (rl rc : Nat) (ca : Option Addr) (cl cc : Nat) (b o : Nat) (log : Nat → Int) (sec : Nat → Bool) (w : World)
    (hra : 0 < rl → ra = some ⟨b, o, none⟩) (hr : RegsAt w b o rl log sec) :
    Calls Try.prog 64 #[.agg #[.slice ra rl rc, .slice ca cl cc]] w (Says (RegionsOk rl log) w) := by
  by_cases h6 : 6 < rl
  · have Hr : Hid (RegsAt w b o rl log sec) := hr
    clear hr
    have h6' : (6 : Int) < (rl : Int) := by omega
    go_enter Try.func64, Try.ntmps64
    go_wp2
    go_ret
    exact Says.no (fun h => by have := h.1; omega) ((More.refl _).alloc _ _)
  · have h6' : ¬ (6 : Int) < (rl : Int) := by omega
    have Hr : Hid (RegsAt w b o rl log sec) := hr
    have Ha : Hid (0 < rl → ra = some ⟨b, o, none⟩) := hra
    clear hr hra
    go_enter Try.func64, Try.ntmps64
    go_wp2
    go_loopg [3] rl (fun g i wr => ∃ k : Nat, k + g = rl ∧ i = .int .i64 k ∧ (∀ j, j < k → 0 ≤ log j ∧ log j ≤ 6) ∧ wr = w.alloc (.cells #[.slice ra rl rc, .slice ca cl cc] 25))
    case atStart => exact ⟨0, by omega, rfl, fun j hj => by omega, rfl⟩
    case round =>
      obtain ⟨k, hkg, rfl, hok, rfl⟩ := hrel
      have Hok : Hid (∀ j, j < k → 0 ≤ log j ∧ log j ≤ 6) := hok
      clear hok
      cases gk with
      | zero =>
        obtain rfl : k = rl := by omega
        go_wp2
        go_ret
        exact Says.yes ⟨by omega, Hok.out⟩ ((More.refl _).alloc _ _)
      | succ g =>
        have hk : k < rl := by omega
        have hk' : (k : Int) < (rl : Int) := by omega
        obtain rfl := Ha.out (by omega)
        have hc0 := ((Hr.out.more ((More.refl _).alloc #[.slice (some ⟨b, o, none⟩) rl rc, .slice ca cl cc] 25)) k hk).1
        by_cases hlo : log k < 0
        · go_wp2
          go_ret
          exact Says.no (fun h => by have := (h.2 k hk).1; omega) ((More.refl _).alloc _ _)
        · by_cases hhi : 6 < log k
          · go_wp2
            go_ret
            exact Says.no (fun h => by have := (h.2 k hk).2; omega) ((More.refl _).alloc _ _)
          · go_wp2
            go_roundg g
            case measure => omega
            case rel =>
              refine ⟨k + 1, by omega, by first | rfl | simp, fun j hj => ?_, rfl⟩
              by_cases e : j = k
              · subst e; omega
              · exact Hok.out j (by omega)

theorem ref_words (l : Int) (h0 : 0 ≤ l) (h1 : l ≤ 6) (s : Bool) (w : World) :
    Calls Try.prog 22 #[.agg #[.int .i64 l, .bool s]] w fun e w' => e = .returned (.int .i64 (wordsI l)) ∧ More w w' := by
  obtain ⟨n, rfl⟩ : ∃ n : Nat, l = n := ⟨l.toNat, by omega⟩
  have hn : n ≤ 6 := by omega
  clear h0 h1
  obtain ⟨R, HR⟩ : ∃ R, Hid (wordsI (n : Int) = R) := ⟨_, rfl⟩
  rw [HR.out]
  go_enter Try.func22, Try.ntmps22
  go_wp2
  go_loopg [3, 4] n (fun g nv i wr => ∃ (k : Nat) (m : Int), k + g = n ∧ m = 2 ^ k ∧ nv = .int .i64 m ∧ i = .int .i64 k ∧ wr = w.alloc (.cells #[.int .i64 n, .bool s] 79))
  case atStart => exact ⟨0, 1, by omega, by decide, rfl, rfl, rfl⟩
  case round =>
    obtain ⟨k, m, hkg, hm, rfl, rfl, rfl⟩ := hrel
    have hb := two_pow_le (k := k) (by omega)
    rw [← hm] at hb
    have Hm : Hid (m = 2 ^ k) := hm
    clear hm
    obtain ⟨b0, b1⟩ := hb
    cases gk with
    | zero =>
      obtain rfl : k = n := by omega
      go_wp2
      go_ret
      refine ⟨?_, (More.refl _).alloc _ _⟩
      rw [Hm.out, ← HR.out]
      simp [wordsI]
    | succ g =>
      have hk' : (k : Int) < (n : Int) := by omega
      go_wp2
      go_roundg g
      case measure => omega
      case rel =>
        refine ⟨k + 1, m + m, by omega, by rw [Int.pow_succ, ← Hm.out]; omega, ?_, by first | rfl | simp, rfl⟩
        first | rfl | (simp; unfold wrap64; omega)
/-- The cells of an array of 64 bools. -/
def arr (f : Nat → Bool) : Array Value := Array.ofFn (n := 64) fun i => .bool (f i.val)

theorem arr_size (f : Nat → Bool) : (arr f).size = 64 := by simp [arr]
theorem arr_one (f : Nat → Bool) : (arr f).all (·.oneCell') = true := by
  rw [Array.all_eq_true]; intro i hi; simp [arr]; rfl
theorem arr_get (f : Nat → Bool) (i : Nat) (h : i < 64) : (arr f)[i]? = some (.bool (f i)) := by
  simp [arr, h]
theorem arr_set (f : Nat → Bool) (k : Nat) (b : Bool) : (arr f).setIfInBounds k (.bool b) = arr (fun i => if i = k then b else f i) := by
  apply Array.ext_getElem?
  intro i
  rw [Array.getElem?_setIfInBounds, arr_size]
  by_cases hi : i < 64
  · rw [arr_get _ _ hi, arr_get _ _ hi]
    by_cases h : k = i
    · subst h; simp [hi]
    · have h' : ¬ i = k := fun e => h e.symm
      simp [h, h']
  · have e1 : (arr f)[i]? = none := by simp [arr_size]; omega
    have e2 : (arr (fun i => if i = k then b else f i))[i]? = none := by simp [arr_size]; omega
    rw [e1, e2]
    by_cases h : k = i
    · subst h; simp [hi]
    · simp [h]
theorem arr_ext {f g : Nat → Bool} (h : ∀ i, i < 64 → f i = g i) : arr f = arr g := by
  apply Array.ext
  · simp [arr]
  · intro i h1 h2
    have : i < 64 := by simpa [arr] using h1
    simp [arr, h i this]
theorem arr_zero : arr (fun _ => false) = Array.replicate 64 (.bool false) := by
  apply Array.ext
  · simp [arr]
  · intro i h1 h2; simp [arr]

/-- The number of the first bits. -/
def val (f : Nat → Bool) : Nat → Nat
  | 0 => 0
  | k + 1 => val f k + if f k then 2 ^ k else 0

theorem val_testBit (u : Nat) : ∀ k, val (fun i => u.testBit i) k = u % 2 ^ k
  | 0 => by simp [val, Nat.mod_one]
  | k + 1 => by
    rw [val, val_testBit u k, Nat.mod_pow_succ, Nat.testBit_eq_decide_div_mod_eq]
    rcases Nat.mod_two_eq_zero_or_one (u / 2 ^ k) with h | h <;> simp [h]

theorem val_all (u : Nat) (h : u < 18446744073709551616) : val (fun i => u.testBit i) 64 = u := by
  rw [val_testBit]; exact Nat.mod_eq_of_lt h

theorem half_bit (a : Int) (k : Nat) (hk : k < 64) : (toU a).testBit k = decide (a / 2 ^ k % 2 = 1) := by
  have hM : (18446744073709551616 : Int) = 2 ^ k * (2 * 2 ^ (63 - k)) := by
    have : (18446744073709551616 : Int) = 2 ^ 64 := by decide
    rw [this, show (64 : Nat) = k + (1 + (63 - k)) by omega, Int.pow_add, Int.pow_add]; simp
  have h1 : a % 18446744073709551616 = a + 2 ^ k * (-(2 * 2 ^ (63 - k) * (a / 18446744073709551616))) := by
    have h := Int.emod_add_mul_ediv a 18446744073709551616
    have e : (18446744073709551616 : Int) * (a / 18446744073709551616) = 2 ^ k * (2 * 2 ^ (63 - k) * (a / 18446744073709551616)) := by
      rw [← Int.mul_assoc, ← hM]
    rw [Int.mul_neg, ← e]; omega
  have h2 : a % 18446744073709551616 / 2 ^ k = a / 2 ^ k + -(2 * 2 ^ (63 - k) * (a / 18446744073709551616)) := by
    rw [h1, Int.add_mul_ediv_left _ _ (by have : (0 : Int) < 2 ^ k := Int.pow_pos (by decide); omega)]
  have h3 : (a / 2 ^ k + -(2 * 2 ^ (63 - k) * (a / 18446744073709551616))) % 2 = a / 2 ^ k % 2 := by
    rw [Int.mul_assoc]
    generalize 2 ^ (63 - k) * (a / 18446744073709551616) = d
    generalize a / 2 ^ k = n
    omega
  rw [Nat.testBit_eq_decide_div_mod_eq]
  congr 1
  apply propext
  have h4 : ((toU a / 2 ^ k % 2 : Nat) : Int) = a / 2 ^ k % 2 := by
    push_cast
    rw [toU_cast, h2, h3]
  omega

theorem half_next (a : Int) (k : Nat) : a / 2 ^ (k + 1) = a / 2 ^ k / 2 := by
  rw [Int.pow_succ, Int.ediv_ediv_of_nonneg (by have : (0 : Int) < 2 ^ k := Int.pow_pos (by decide); omega)]
theorem info29 : (Try.prog.info? 113).map (·.size) = some 64 := by kernel_rfl
theorem info_arr (f : Nat → Bool) : (Try.prog.info? 113).map (·.size) = some (arr f).size := by rw [arr_size]; exact info29

theorem setRow_alloc2 (w : World) (c c' : Array Value) (t : TypeId) (o : Obj) :
    ((w.alloc (.cells c t)).alloc o).setRow w.heap.size c' = (w.alloc (.cells c' t)).alloc o := by
  simp only [World.setRow, World.alloc]
  congr 1
  apply Array.ext_getElem?
  intro i
  rw [Array.getElem?_modify]
  by_cases h : w.heap.size = i
  · subst h
    simp [Array.getElem?_push]
  · have h' : ¬ i = w.heap.size := fun e => h e.symm
    simp [h, h', Array.getElem?_push]

/-- The first bits of a number, the others not yet. -/
def part (u k : Nat) : Array Value := arr (fun i => decide (i < k) && u.testBit i)

theorem part_zero (u : Nat) : part u 0 = Array.replicate 64 (.bool false) := by
  rw [← arr_zero]; exact arr_ext fun i _ => by simp
theorem part_all (u : Nat) : part u 64 = arr (fun i => u.testBit i) := arr_ext fun i hi => by simp [hi]
theorem part_next (u k : Nat) (b : Bool) (h : u.testBit k = b) : (part u k).setIfInBounds k (.bool b) = part u (k + 1) := by
  unfold part
  rw [arr_set]
  apply arr_ext
  intro i hi
  by_cases e : i = k
  · subst e; simp [h]
  · have : (i < k + 1) ↔ (i < k) := by omega
    simp [e, this]

set_option maxHeartbeats 400000 in
theorem bits_calls (a : Int) (h0 : -9223372036854775808 ≤ a) (h1 : a ≤ 9223372036854775807) (w : World) :
    Calls Try.prog 75 #[.int .i64 a] w fun e w' => e = .returned (.agg (arr (fun i => (toU a).testBit i))) ∧ More w w' := by
  rw [← part_all]
  go_enter Try.func75, Try.ntmps75
  go_wp2
  go_loopg [0, 4] 64 (fun g n i wr => ∃ (k : Nat) (m : Int), k + g = 64 ∧ a / 2 ^ k = m ∧ -9223372036854775808 ≤ m ∧ m ≤ 9223372036854775807 ∧ i = .int .i64 k ∧ n = .int .i64 m ∧ wr = (w.alloc (.cells (part (toU a) 0) 113)).alloc (.cells (part (toU a) k) 113))
  case atStart => exact ⟨0, a, by omega, by simp, h0, h1, rfl, rfl, by rw [part_zero]; rfl⟩
  case round =>
    obtain ⟨k, n, hkg, hn, b0, b1, rfl, rfl, rfl⟩ := hrel
    cases gk with
    | zero =>
      obtain rfl : k = 64 := by omega
      have hi29 : (Try.prog.info? 113).map (·.size) = some (part (toU a) 64).size := info_arr _
      have hg1 := heap_alloc2_new w (.cells (part (toU a) 0) 113) (.cells (part (toU a) 64) 113)
      have hg0 := heap_alloc2_old w (.cells (part (toU a) 0) 113) (.cells (part (toU a) 64) 113)
      have hold : (part (toU a) 0).size = (part (toU a) 64).size := by unfold part; rw [arr_size, arr_size]
      have hall : (part (toU a) 64).all (·.oneCell') = true := arr_one _
      go_wp2_with (first | (refine wpList_load_row rfl 113 (.tmp 3) rfl (w.heap.size + 1) rfl 113 _ (0, 0) _ hg1 Try.underlying113 rfl hi29 ?_) | (refine wpList_store_row rfl 113 (.tmp 2) (.tmp 24) rfl w.heap.size _ rfl rfl 113 _ hg0 hi29 hold hall ?_; rw [setRow_alloc2]))
      refine bodyPost_ret (results_cell_row rfl _ _ w.heap.size 113 (part (toU a) 64) (0, 0) _ rfl (heap_alloc2_old _ _ _) Try.underlying113 rfl hi29) rfl ⟨rfl, by repeat (first | exact More.refl _ | apply More.drew | apply More.alloc)⟩
    | succ g =>
      have hk : k < 64 := by omega
      have hk' : (k : Int) < 64 := by omega
      have hb := half_bit a k hk
      have hnx := half_next a k
      rw [hn] at hb hnx
      have hcs : (part (toU a) k)[k]? = some (.bool false) := by
        unfold part; rw [arr_get _ _ hk]; simp
      have hsz : (part (toU a) k).size = 64 := by unfold part; exact arr_size _
      have Hb : Hid ((toU a).testBit k = decide (n % 2 = 1)) := hb
      have Hx : Hid (a / 2 ^ (k + 1) = n / 2) := hnx
      clear hb hnx
      by_cases hr : n % 2 = 0
      · have hr1 : n.tmod 2 = 0 := Int.tmod_eq_zero_of_dvd (Int.dvd_of_emod_eq_zero hr)
        have hd : n.tdiv 2 = n / 2 := Int.tdiv_eq_ediv_of_dvd (Int.dvd_of_emod_eq_zero hr)
        go_wp2
        go_roundg g
        case measure => omega
        case rel => exact ⟨k + 1, n / 2, by omega, Hx.out, by omega, by omega, by first | rfl | simp, rfl, by rw [← part_next (toU a) k false (by rw [Hb.out]; simp [hr])]⟩
      · have hs : (n - 1).tdiv 2 = n / 2 := by rw [Int.tdiv_eq_ediv_of_dvd (by omega)]; omega
        by_cases hp : 0 ≤ n
        · have hr1 : n.tmod 2 = 1 := by rw [Int.tmod_eq_emod_of_nonneg hp]; omega
          go_wp2
          go_roundg g
          case measure => omega
          case rel => exact ⟨k + 1, n / 2, by omega, Hx.out, by omega, by omega, by first | rfl | simp, rfl, by rw [← part_next (toU a) k true (by rw [Hb.out]; simp; omega)]⟩
        · have hr1 : n.tmod 2 = -1 := by rw [Int.tmod_eq_emod, if_neg (by omega)]; omega
          go_wp2
          go_roundg g
          case measure => omega
          case rel => exact ⟨k + 1, n / 2, by omega, Hx.out, by omega, by omega, by first | rfl | simp, rfl, by rw [← part_next (toU a) k true (by rw [Hb.out]; simp; omega)]⟩

theorem wrap_sum (x y : Int) : wrap64 (wrap64 x + wrap64 y) = wrap64 (x + y) := by unfold wrap64; omega

theorem val_yes (f : Nat → Bool) (k : Nat) (s p : Int) (hs : s = wrap64 (val f k : Nat)) (hp : p = wrap64 ((2 ^ k : Nat) : Int)) (h : f k = true) : wrap64 (s + p) = wrap64 (val f (k + 1) : Nat) := by
  subst hs; subst hp
  rw [wrap_sum, val, if_pos h]; push_cast; rfl
theorem val_no (f : Nat → Bool) (k : Nat) (s : Int) (hs : s = wrap64 (val f k : Nat)) (h : f k = false) : s = wrap64 (val f (k + 1) : Nat) := by
  rw [hs, val, h]; simp
theorem pow_next (k : Nat) (p : Int) (hp : p = wrap64 ((2 ^ k : Nat) : Int)) : wrap64 (p + p) = wrap64 ((2 ^ (k + 1) : Nat) : Int) := by
  subst hp
  rw [wrap_sum, Nat.pow_succ]; push_cast; congr 1; omega

set_option maxHeartbeats 400000 in
theorem of_cells (f : Nat → Bool) (c : Array Value) (hsz : c.size = 64) (hc : ∀ i, i < 64 → c[i]? = some (.bool (f i))) (w : World) :
    Calls Try.prog 83 #[.agg c] w fun e w' => e = .returned (.int .i64 (wrap64 ((val f 64 : Nat) : Int))) ∧ More w w' := by
  have Hc : Hid (∀ i, i < 64 → c[i]? = some (.bool (f i))) := hc
  clear hc
  go_enter Try.func83, Try.ntmps83
  go_wp2
  go_loopg [3, 4, 5] 64 (fun g sv pv i wr => ∃ (k : Nat) (s p : Int), k + g = 64 ∧ s = wrap64 ((val f k : Nat) : Int) ∧ p = wrap64 ((2 ^ k : Nat) : Int) ∧ sv = .int .i64 s ∧ pv = .int .i64 p ∧ i = .int .i64 k ∧ wr = w.alloc (.cells c 113))
  case atStart => exact ⟨0, 0, 1, by omega, by unfold val wrap64; omega, by unfold wrap64; omega, rfl, rfl, rfl, rfl⟩
  case round =>
    obtain ⟨k, s, p, hkg, hs, hp, rfl, rfl, rfl, rfl⟩ := hrel
    have Hs : Hid (s = wrap64 ((val f k : Nat) : Int)) := hs
    have Hp : Hid (p = wrap64 ((2 ^ k : Nat) : Int)) := hp
    clear hs hp
    cases gk with
    | zero =>
      obtain rfl : k = 64 := by omega
      go_wp2
      go_ret
      exact ⟨congrArg (fun n => Ending.returned (.int .i64 n)) Hs.out, by repeat (first | exact More.refl _ | apply More.drew | apply More.alloc)⟩
    | succ g =>
      have hk : k < 64 := by omega
      have hk' : (k : Int) < 64 := by omega
      cases hf : f k with
      | true =>
        have hcs : c[k]'(by omega) = .bool true := by have h := Hc.out k hk; rw [hf] at h; exact (Array.getElem?_eq_some_iff.1 h).2
        have Hf : Hid (f k = true) := hf
        clear hf
        go_wp2
        go_roundg g
        case measure => omega
        case rel => exact ⟨k + 1, _, _, by omega, val_yes f k s p Hs.out Hp.out Hf.out, pow_next k p Hp.out, rfl, rfl, by first | rfl | simp, rfl⟩
      | false =>
        have hcs : c[k]'(by omega) = .bool false := by have h := Hc.out k hk; rw [hf] at h; exact (Array.getElem?_eq_some_iff.1 h).2
        have Hf : Hid (f k = false) := hf
        clear hf
        go_wp2
        go_roundg g
        case measure => omega
        case rel => exact ⟨k + 1, _, _, by omega, val_no f k s Hs.out Hf.out, pow_next k p Hp.out, rfl, rfl, by first | rfl | simp, rfl⟩

theorem of_calls (f : Nat → Bool) (w : World) :
    Calls Try.prog 83 #[.agg (arr f)] w fun e w' => e = .returned (.int .i64 (wrap64 ((val f 64 : Nat) : Int))) ∧ More w w' :=
  of_cells f (arr f) (arr_size f) (fun i hi => arr_get f i hi) w
theorem bits_cells (a : Int) (h0 : -9223372036854775808 ≤ a) (h1 : a ≤ 9223372036854775807) (w : World) :
    Calls Try.prog 75 #[.int .i64 a] w fun e w' => ∃ c, e = .returned (.agg c) ∧ Hid (c = arr (fun i => (toU a).testBit i)) ∧ More w w' :=
  (bits_calls a h0 h1 w).mono fun _ _ h => ⟨_, h.1, rfl, h.2⟩

theorem info_of {c : Array Value} {f : Nat → Bool} (h : Hid (c = arr f)) : (Try.prog.info? 113).map (·.size) = some c.size := by rw [h.out]; exact info_arr f
theorem size_of {c : Array Value} {f : Nat → Bool} (h : Hid (c = arr f)) : 64 = c.size := by rw [h.out, arr_size]
theorem one_of {c : Array Value} {f : Nat → Bool} (h : Hid (c = arr f)) : c.all (·.oneCell') = true := by rw [h.out]; exact arr_one f
theorem get_of {c : Array Value} {f : Nat → Bool} (h : Hid (c = arr f)) (i : Nat) (hi : i < 64) : c[i]? = some (.bool (f i)) := by rw [h.out]; exact arr_get f i hi

/-- Three arrays of 64 bools, of which the last is the call's own to write. -/
structure St3 (w : World) (B1 B2 B3 : Nat) (c1 c2 c3 : Array Value) (wr : World) : Prop where
  one : wr.heap[B1]? = some (.cells c1 113 (0, 0))
  two : wr.heap[B2]? = some (.cells c2 113 (0, 0))
  three : wr.heap[B3]? = some (.cells c3 113 (0, 0))
  more : More w wr
  new : w.heap.size ≤ B3
  apart1 : B1 ≠ B3
  apart2 : B2 ≠ B3

theorem St3.set {w wr : World} {B1 B2 B3 : Nat} {c1 c2 c3 c4 : Array Value} (h : St3 w B1 B2 B3 c1 c2 c3 wr) (k : Nat) (v : Value) (e : c3.setIfInBounds k v = c4) :
    St3 w B1 B2 B3 c1 c2 c4 (wr.setCell ⟨B3, k, none⟩ v) := by
  subst e
  exact ⟨(heap_setCell_other _ _ _ _ h.apart1).trans h.one, (heap_setCell_other _ _ _ _ h.apart2).trans h.two, heap_setCell_same _ _ _ _ _ _ h.three, h.more.setCell h.new v, h.new, h.apart1, h.apart2⟩
theorem St3.drew {w wr : World} {B1 B2 B3 : Nat} {c1 c2 c3 : Array Value} (h : St3 w B1 B2 B3 c1 c2 c3 wr) : St3 w B1 B2 B3 c1 c2 c3 wr.drew :=
  ⟨h.one, h.two, h.three, h.more.drew, h.new, h.apart1, h.apart2⟩

theorem part_lit (u : Nat) : part u 0 = #[.bool false, .bool false, .bool false, .bool false, .bool false, .bool false, .bool false, .bool false, .bool false, .bool false, .bool false, .bool false, .bool false, .bool false, .bool false, .bool false, .bool false, .bool false, .bool false, .bool false, .bool false, .bool false, .bool false, .bool false, .bool false, .bool false, .bool false, .bool false, .bool false, .bool false, .bool false, .bool false, .bool false, .bool false, .bool false, .bool false, .bool false, .bool false, .bool false, .bool false, .bool false, .bool false, .bool false, .bool false, .bool false, .bool false, .bool false, .bool false, .bool false, .bool false, .bool false, .bool false, .bool false, .bool false, .bool false, .bool false, .bool false, .bool false, .bool false, .bool false, .bool false, .bool false, .bool false, .bool false] := (part_zero u).trans rfl

theorem St3.start {w w1 w2 : World} {c1 c2 c3 : Array Value} (m1 : More w w1) (m2 : More (w1.alloc (.cells c1 113)) w2) :
    St3 w w1.heap.size w2.heap.size (w2.heap.size + 1) c1 c2 c3 ((w2.alloc (.cells c2 113)).alloc (.cells c3 113)) := by
  have s1 : (w1.alloc (.cells c1 113)).heap.size = w1.heap.size + 1 := by simp
  have s2 : (w2.alloc (.cells c2 113)).heap.size = w2.heap.size + 1 := by simp
  have s3 := m2.size
  have s4 := m1.size
  refine ⟨?_, ?_, ?_, (((m1.alloc c1 113).trans m2).alloc c2 113).alloc c3 113, by omega, by omega, by omega⟩
  · rw [Below.heap_alloc _ _ _ (by omega), Below.heap_alloc _ _ _ (by omega), m2.block _ (by omega)]; exact heap_alloc_last _ _
  · rw [Below.heap_alloc _ _ _ (by omega)]; exact heap_alloc_last _ _
  · rw [← s2]; exact heap_alloc_last _ _

theorem of_num (U : Nat) (h : U < 18446744073709551616) (w : World) :
    Calls Try.prog 83 #[.agg (arr (fun i => U.testBit i))] w fun e w' => e = .returned (.int .i64 (wrap64 (U : Int))) ∧ More w w' := by
  have := of_calls (fun i => U.testBit i) w
  rw [val_all U h] at this
  exact this

set_option maxHeartbeats 1000000 in
theorem bitwise_and (a b : Int) (U : Nat) (a0 : -9223372036854775808 ≤ a) (a1 : a ≤ 9223372036854775807) (b0 : -9223372036854775808 ≤ b) (b1 : b ≤ 9223372036854775807)
    (hU : Hid (U < 18446744073709551616)) (hB : Hid (∀ k, U.testBit k = ((toU a).testBit k && (toU b).testBit k))) (w : World) :
    Calls Try.prog 74 #[.int .i64 4, .int .i64 a, .int .i64 b] w fun e w' => e = .returned (.int .i64 (wrap64 (U : Int))) ∧ More w w' := by
  go_enter Try.func74, Try.ntmps74
  go_wp2_with (fail)
  refine (bits_cells a a0 a1 _).mono ?_
  rintro e w1 ⟨cx, rfl, hx, m1⟩
  go_wp2_with (refine wpList_store_row rfl 113 (.tmp 7) (.tmp 12) rfl _ _ rfl rfl 113 _ (heap_alloc_last _ _) (info_of hx) (size_of hx) (one_of hx) ?_; rw [World.setRow_alloc_new])
  refine (bits_cells b b0 b1 _).mono ?_
  rintro e w2 ⟨cy, rfl, hy, m2⟩
  go_wp2_with (refine wpList_store_row rfl 113 (.tmp 8) (.tmp 14) rfl _ _ rfl rfl 113 _ (heap_alloc_last _ _) (info_of hy) (size_of hy) (one_of hy) ?_; rw [World.setRow_alloc_new])
  have H0 := St3.start (c2 := cy) (c3 := part U 0) m1 m2
  go_loopg [10] 64 (fun g i wr => ∃ (k : Nat), k + g = 64 ∧ i = .int .i64 k ∧ St3 w w1.heap.size w2.heap.size (w2.heap.size + 1) cx cy (part U k) wr)
  case atStart =>
    refine ⟨0, by omega, rfl, ?_⟩
    rw [part_lit] at H0 ⊢
    exact H0
  case round =>
    obtain ⟨k, hkg, rfl, hst⟩ := hrel
    clear H0 m1 m2
    cases gk with
    | zero =>
      obtain rfl : k = 64 := by omega
      have hg := hst.three
      have hm := hst.more
      rw [part_all] at hg
      clear hst
      go_wp2_with (refine wpList_load_row rfl 113 (.tmp 9) rfl _ rfl 113 _ (0, 0) _ hg Try.underlying113 rfl (info_arr _) ?_)
      refine (of_num U hU.out _).mono ?_
      rintro e w3 ⟨rfl, m3⟩
      go_wp2
      go_ret
      exact ⟨rfl, hm.trans m3⟩
    | succ g =>
      have hk : k < 64 := by omega
      have hk' : (k : Int) < 64 := by omega
      have hb := hB.out k
      obtain ⟨x, ex⟩ : ∃ x, (toU a).testBit k = x := ⟨_, rfl⟩
      obtain ⟨y, ey⟩ : ∃ y, (toU b).testBit k = y := ⟨_, rfl⟩
      have c1 : wr.cell? ⟨w1.heap.size, k, none⟩ = some (.bool x) := by rw [cell_of_row _ _ _ _ _ _ hst.one, get_of hx k hk, ex]
      have c2 : wr.cell? ⟨w2.heap.size, k, none⟩ = some (.bool y) := by rw [cell_of_row _ _ _ _ _ _ hst.two, get_of hy k hk, ey]
      have c3 : wr.cell? ⟨w2.heap.size + 1, k, none⟩ = some (.bool false) := by rw [cell_of_row _ _ _ _ _ _ hst.three]; unfold part; rw [arr_get _ _ hk]; simp
      have f3 : wr.frozen? ⟨w2.heap.size + 1, k, none⟩ = false := frozen_of_row _ _ _ _ _ hst.three
      rw [ex, ey] at hb
      have Hb : Hid (U.testBit k = (x && y)) := hb
      have Hst : Hid (St3 w w1.heap.size w2.heap.size (w2.heap.size + 1) cx cy (part U k) wr) := hst
      clear hb ex ey hst
      cases x <;> cases y
      all_goals
        go_wp2
        go_roundg g
        case measure => omega
        case rel => exact ⟨k + 1, by omega, by first | rfl | simp, Hst.out.set k _ (part_next _ k _ Hb.out)⟩

set_option maxHeartbeats 1000000 in
theorem bitwise_or (a b : Int) (U : Nat) (a0 : -9223372036854775808 ≤ a) (a1 : a ≤ 9223372036854775807) (b0 : -9223372036854775808 ≤ b) (b1 : b ≤ 9223372036854775807)
    (hU : Hid (U < 18446744073709551616)) (hB : Hid (∀ k, U.testBit k = ((toU a).testBit k || (toU b).testBit k))) (w : World) :
    Calls Try.prog 74 #[.int .i64 5, .int .i64 a, .int .i64 b] w fun e w' => e = .returned (.int .i64 (wrap64 (U : Int))) ∧ More w w' := by
  go_enter Try.func74, Try.ntmps74
  go_wp2_with (fail)
  refine (bits_cells a a0 a1 _).mono ?_
  rintro e w1 ⟨cx, rfl, hx, m1⟩
  go_wp2_with (refine wpList_store_row rfl 113 (.tmp 7) (.tmp 12) rfl _ _ rfl rfl 113 _ (heap_alloc_last _ _) (info_of hx) (size_of hx) (one_of hx) ?_; rw [World.setRow_alloc_new])
  refine (bits_cells b b0 b1 _).mono ?_
  rintro e w2 ⟨cy, rfl, hy, m2⟩
  go_wp2_with (refine wpList_store_row rfl 113 (.tmp 8) (.tmp 14) rfl _ _ rfl rfl 113 _ (heap_alloc_last _ _) (info_of hy) (size_of hy) (one_of hy) ?_; rw [World.setRow_alloc_new])
  have H0 := St3.start (c2 := cy) (c3 := part U 0) m1 m2
  go_loopg [10] 64 (fun g i wr => ∃ (k : Nat), k + g = 64 ∧ i = .int .i64 k ∧ St3 w w1.heap.size w2.heap.size (w2.heap.size + 1) cx cy (part U k) wr)
  case atStart =>
    refine ⟨0, by omega, rfl, ?_⟩
    rw [part_lit] at H0 ⊢
    exact H0
  case round =>
    obtain ⟨k, hkg, rfl, hst⟩ := hrel
    clear H0 m1 m2
    cases gk with
    | zero =>
      obtain rfl : k = 64 := by omega
      have hg := hst.three
      have hm := hst.more
      rw [part_all] at hg
      clear hst
      go_wp2_with (refine wpList_load_row rfl 113 (.tmp 9) rfl _ rfl 113 _ (0, 0) _ hg Try.underlying113 rfl (info_arr _) ?_)
      refine (of_num U hU.out _).mono ?_
      rintro e w3 ⟨rfl, m3⟩
      go_wp2
      go_ret
      exact ⟨rfl, hm.trans m3⟩
    | succ g =>
      have hk : k < 64 := by omega
      have hk' : (k : Int) < 64 := by omega
      have hb := hB.out k
      obtain ⟨x, ex⟩ : ∃ x, (toU a).testBit k = x := ⟨_, rfl⟩
      obtain ⟨y, ey⟩ : ∃ y, (toU b).testBit k = y := ⟨_, rfl⟩
      have c1 : wr.cell? ⟨w1.heap.size, k, none⟩ = some (.bool x) := by rw [cell_of_row _ _ _ _ _ _ hst.one, get_of hx k hk, ex]
      have c2 : wr.cell? ⟨w2.heap.size, k, none⟩ = some (.bool y) := by rw [cell_of_row _ _ _ _ _ _ hst.two, get_of hy k hk, ey]
      have c3 : wr.cell? ⟨w2.heap.size + 1, k, none⟩ = some (.bool false) := by rw [cell_of_row _ _ _ _ _ _ hst.three]; unfold part; rw [arr_get _ _ hk]; simp
      have f3 : wr.frozen? ⟨w2.heap.size + 1, k, none⟩ = false := frozen_of_row _ _ _ _ _ hst.three
      rw [ex, ey] at hb
      have Hb : Hid (U.testBit k = (x || y)) := hb
      have Hst : Hid (St3 w w1.heap.size w2.heap.size (w2.heap.size + 1) cx cy (part U k) wr) := hst
      clear hb ex ey hst
      cases x <;> cases y
      all_goals
        go_wp2
        go_roundg g
        case measure => omega
        case rel => exact ⟨k + 1, by omega, by first | rfl | simp, Hst.out.set k _ (part_next _ k _ Hb.out)⟩

set_option maxHeartbeats 1000000 in
theorem bitwise_xor (a b : Int) (U : Nat) (a0 : -9223372036854775808 ≤ a) (a1 : a ≤ 9223372036854775807) (b0 : -9223372036854775808 ≤ b) (b1 : b ≤ 9223372036854775807)
    (hU : Hid (U < 18446744073709551616)) (hB : Hid (∀ k, U.testBit k = ((toU a).testBit k ^^ (toU b).testBit k))) (w : World) :
    Calls Try.prog 74 #[.int .i64 6, .int .i64 a, .int .i64 b] w fun e w' => e = .returned (.int .i64 (wrap64 (U : Int))) ∧ More w w' := by
  go_enter Try.func74, Try.ntmps74
  go_wp2_with (fail)
  refine (bits_cells a a0 a1 _).mono ?_
  rintro e w1 ⟨cx, rfl, hx, m1⟩
  go_wp2_with (refine wpList_store_row rfl 113 (.tmp 7) (.tmp 12) rfl _ _ rfl rfl 113 _ (heap_alloc_last _ _) (info_of hx) (size_of hx) (one_of hx) ?_; rw [World.setRow_alloc_new])
  refine (bits_cells b b0 b1 _).mono ?_
  rintro e w2 ⟨cy, rfl, hy, m2⟩
  go_wp2_with (refine wpList_store_row rfl 113 (.tmp 8) (.tmp 14) rfl _ _ rfl rfl 113 _ (heap_alloc_last _ _) (info_of hy) (size_of hy) (one_of hy) ?_; rw [World.setRow_alloc_new])
  have H0 := St3.start (c2 := cy) (c3 := part U 0) m1 m2
  go_loopg [10] 64 (fun g i wr => ∃ (k : Nat), k + g = 64 ∧ i = .int .i64 k ∧ St3 w w1.heap.size w2.heap.size (w2.heap.size + 1) cx cy (part U k) wr)
  case atStart =>
    refine ⟨0, by omega, rfl, ?_⟩
    rw [part_lit] at H0 ⊢
    exact H0
  case round =>
    obtain ⟨k, hkg, rfl, hst⟩ := hrel
    clear H0 m1 m2
    cases gk with
    | zero =>
      obtain rfl : k = 64 := by omega
      have hg := hst.three
      have hm := hst.more
      rw [part_all] at hg
      clear hst
      go_wp2_with (refine wpList_load_row rfl 113 (.tmp 9) rfl _ rfl 113 _ (0, 0) _ hg Try.underlying113 rfl (info_arr _) ?_)
      refine (of_num U hU.out _).mono ?_
      rintro e w3 ⟨rfl, m3⟩
      go_wp2
      go_ret
      exact ⟨rfl, hm.trans m3⟩
    | succ g =>
      have hk : k < 64 := by omega
      have hk' : (k : Int) < 64 := by omega
      have hb := hB.out k
      obtain ⟨x, ex⟩ : ∃ x, (toU a).testBit k = x := ⟨_, rfl⟩
      obtain ⟨y, ey⟩ : ∃ y, (toU b).testBit k = y := ⟨_, rfl⟩
      have c1 : wr.cell? ⟨w1.heap.size, k, none⟩ = some (.bool x) := by rw [cell_of_row _ _ _ _ _ _ hst.one, get_of hx k hk, ex]
      have c2 : wr.cell? ⟨w2.heap.size, k, none⟩ = some (.bool y) := by rw [cell_of_row _ _ _ _ _ _ hst.two, get_of hy k hk, ey]
      have c3 : wr.cell? ⟨w2.heap.size + 1, k, none⟩ = some (.bool false) := by rw [cell_of_row _ _ _ _ _ _ hst.three]; unfold part; rw [arr_get _ _ hk]; simp
      have f3 : wr.frozen? ⟨w2.heap.size + 1, k, none⟩ = false := frozen_of_row _ _ _ _ _ hst.three
      rw [ex, ey] at hb
      have Hb : Hid (U.testBit k = (x ^^ y)) := hb
      have Hst : Hid (St3 w w1.heap.size w2.heap.size (w2.heap.size + 1) cx cy (part U k) wr) := hst
      clear hb ex ey hst
      cases x <;> cases y
      all_goals
        go_wp2
        go_region
        go_wp2
        go_roundg g
        case measure => omega
        case rel => exact ⟨k + 1, by omega, by first | rfl | simp, (Hst.out.set k _ (part_next _ k _ Hb.out)).drew⟩
theorem below_apart (a b : Int) (v : Bool) (ha : decide (a < 0) = !v) (hb : decide (b < 0) = v) (w : World) :
    Calls Try.prog 65 #[.int .i64 a, .int .i64 b] w fun e w' => e = .returned (.bool v) ∧ w' = w := by
  cases v
  all_goals
    go_enter Try.func65, Try.ntmps65
    go_wp2
    go_ret
    exact ⟨rfl, rfl⟩
theorem below_same (a b : Int) (v : Bool) (ha : decide (a < 0) = v) (hb : decide (b < 0) = v) (w : World) :
    Calls Try.prog 65 #[.int .i64 a, .int .i64 b] w fun e w' => e = .returned (.bool (decide (a < b))) ∧ w' = w := by
  cases v
  all_goals
    go_enter Try.func65, Try.ntmps65
    go_wp2
    go_ret
    exact ⟨rfl, rfl⟩

theorem below_calls (a b : Int) (a0 : -9223372036854775808 ≤ a) (a1 : a ≤ 9223372036854775807) (b0 : -9223372036854775808 ≤ b) (b1 : b ≤ 9223372036854775807) (w : World) :
    Calls Try.prog 65 #[.int .i64 a, .int .i64 b] w fun e w' => e = .returned (.bool (decide (toU a < toU b))) ∧ w' = w := by
  by_cases ha : a < 0 <;> by_cases hb : b < 0
  · rw [show decide (toU a < toU b) = decide (a < b) by rw [decide_eq_decide]; unfold toU; omega]
    exact below_same a b true (by simp [ha]) (by simp [hb]) w
  · rw [show decide (toU a < toU b) = false by rw [decide_eq_false_iff_not]; unfold toU; omega]
    exact below_apart a b false (by simp [ha]) (by simp; omega) w
  · rw [show decide (toU a < toU b) = true by rw [decide_eq_true_iff]; unfold toU; omega]
    exact below_apart a b true (by simp; omega) (by simp [hb]) w
  · rw [show decide (toU a < toU b) = decide (a < b) by rw [decide_eq_decide]; unfold toU; omega]
    exact below_same a b false (by simp; omega) (by simp; omega) w

theorem part_skip (u k : Nat) (h : u.testBit k = false) : part u k = part u (k + 1) := by
  unfold part
  apply arr_ext
  intro i hi
  by_cases e : i = k
  · subst e; simp [h]
  · have : (i < k + 1) ↔ (i < k) := by omega
    simp [this]

theorem St3.start2 {w w1 : World} {c1 c3 : Array Value} (m1 : More w w1) :
    St3 w w1.heap.size w1.heap.size (w1.heap.size + 1) c1 c1 c3 ((w1.alloc (.cells c1 113)).alloc (.cells c3 113)) := by
  have s1 : (w1.alloc (.cells c1 113)).heap.size = w1.heap.size + 1 := by simp
  have s4 := m1.size
  have h1 : ((w1.alloc (.cells c1 113)).alloc (.cells c3 113)).heap[w1.heap.size]? = some (.cells c1 113 (0, 0)) := by
    rw [Below.heap_alloc _ _ _ (by omega)]; exact heap_alloc_last _ _
  refine ⟨h1, h1, ?_, (m1.alloc c1 113).alloc c3 113, by omega, by omega, by omega⟩
  rw [← s1]; exact heap_alloc_last _ _

set_option maxHeartbeats 1000000 in
theorem shift_calls (a s : Int) (U : Nat) (a0 : -9223372036854775808 ≤ a) (a1 : a ≤ 9223372036854775807) (s0 : -63 ≤ s) (s1 : s ≤ 63)
    (hU : Hid (U < 18446744073709551616)) (hB : Hid (∀ k : Nat, k < 64 → U.testBit k = (decide (0 ≤ (k : Int) - s ∧ (k : Int) - s < 64) && (toU a).testBit ((k : Int) - s).toNat))) (w : World) :
    Calls Try.prog 76 #[.int .i64 a, .int .i64 s] w fun e w' => e = .returned (.int .i64 (wrap64 (U : Int))) ∧ More w w' := by
  go_enter Try.func76, Try.ntmps76
  go_wp2_with (fail)
  refine (bits_cells a a0 a1 _).mono ?_
  rintro e w1 ⟨cx, rfl, hx, m1⟩
  go_wp2_with (refine wpList_store_row rfl 113 (.tmp 5) (.tmp 9) rfl _ _ rfl rfl 113 _ (heap_alloc_last _ _) (info_of hx) (size_of hx) (one_of hx) ?_; rw [World.setRow_alloc_new])
  have H0 := St3.start2 (c1 := cx) (c3 := part U 0) m1
  go_loopg [7] 64 (fun g i wr => ∃ (k : Nat), k + g = 64 ∧ i = .int .i64 k ∧ St3 w w1.heap.size w1.heap.size (w1.heap.size + 1) cx cx (part U k) wr)
  case atStart =>
    refine ⟨0, by omega, rfl, ?_⟩
    rw [part_lit] at H0 ⊢
    exact H0
  case round =>
    obtain ⟨k, hkg, rfl, hst⟩ := hrel
    clear H0 m1
    cases gk with
    | zero =>
      obtain rfl : k = 64 := by omega
      have hg := hst.three
      have hm := hst.more
      rw [part_all] at hg
      clear hst
      go_wp2_with (refine wpList_load_row rfl 113 (.tmp 6) rfl _ rfl 113 _ (0, 0) _ hg Try.underlying113 rfl (info_arr _) ?_)
      refine (of_num U hU.out _).mono ?_
      rintro e w3 ⟨rfl, m3⟩
      go_wp2
      go_ret
      exact ⟨rfl, hm.trans m3⟩
    | succ g =>
      have hk : k < 64 := by omega
      have hk' : (k : Int) < 64 := by omega
      have hb := hB.out k hk
      have c3 : wr.cell? ⟨w1.heap.size + 1, k, none⟩ = some (.bool false) := by rw [cell_of_row _ _ _ _ _ _ hst.three]; unfold part; rw [arr_get _ _ hk]; simp
      have f3 : wr.frozen? ⟨w1.heap.size + 1, k, none⟩ = false := frozen_of_row _ _ _ _ _ hst.three
      have Hst : Hid (St3 w w1.heap.size w1.heap.size (w1.heap.size + 1) cx cx (part U k) wr) := hst
      by_cases h1 : 0 ≤ (k : Int) - s
      · by_cases h2 : (k : Int) - s < 64
        · obtain ⟨j, hj⟩ : ∃ j : Nat, (k : Int) - s = (j : Int) := ⟨((k : Int) - s).toNat, by omega⟩
          have hj64 : j < 64 := by omega
          have hjI : (j : Int) < 64 := by omega
          obtain ⟨x, ex⟩ : ∃ x, (toU a).testBit j = x := ⟨_, rfl⟩
          have c1 : wr.cell? ⟨w1.heap.size, j, none⟩ = some (.bool x) := by rw [cell_of_row _ _ _ _ _ _ hst.one, get_of hx j hj64, ex]
          rw [hj, Int.toNat_natCast, ex, decide_eq_true (by omega), Bool.true_and] at hb
          have Hb : Hid (U.testBit k = x) := hb
          clear hb ex hst h1 h2
          go_wp2
          go_roundg g
          case measure => omega
          case rel => exact ⟨k + 1, by omega, by first | rfl | simp, Hst.out.set k _ (part_next _ k _ Hb.out)⟩
        · rw [decide_eq_false (by omega), Bool.false_and] at hb
          have Hb : Hid (U.testBit k = false) := hb
          clear hb hst
          go_wp2
          go_roundg g
          case measure => omega
          case rel => exact ⟨k + 1, by omega, by first | rfl | simp, part_skip _ k Hb.out ▸ Hst.out⟩
      · rw [decide_eq_false (by omega), Bool.false_and] at hb
        have Hb : Hid (U.testBit k = false) := hb
        clear hb hst
        go_wp2
        go_roundg g
        case measure => omega
        case rel => exact ⟨k + 1, by omega, by first | rfl | simp, part_skip _ k Hb.out ▸ Hst.out⟩
/-- The upper bits of a number, the others not yet. -/
def top (u g : Nat) : Array Value := arr (fun i => decide (g ≤ i) && u.testBit i)
theorem top_start (u : Nat) : top u 64 = part u 0 := arr_ext fun i hi => by
  have : ¬ 64 ≤ i := by omega
  simp [this]
theorem top_all (u : Nat) : top u 0 = arr (fun i => u.testBit i) := arr_ext fun i _ => by simp
theorem top_next (u g : Nat) (b : Bool) (h : u.testBit g = b) : (top u (g + 1)).setIfInBounds g (.bool b) = top u g := by
  unfold top
  rw [arr_set]
  apply arr_ext
  intro i hi
  by_cases e : i = g
  · subst e; simp [h]
  · have : (g + 1 ≤ i) ↔ (g ≤ i) := by omega
    simp [e, this]
theorem top_skip (u g : Nat) (h : u.testBit g = false) : top u (g + 1) = top u g := by
  unfold top
  apply arr_ext
  intro i hi
  by_cases e : i = g
  · subst e; simp [h]
  · have : (g + 1 ≤ i) ↔ (g ≤ i) := by omega
    simp [this]

theorem step_num (T x B : Nat) (hB : 0 < B) (hx : x < 2) :
    (2 * T + x) % B = (if B ≤ 2 * (T % B) + x then 2 * (T % B) + x - B else 2 * (T % B) + x) ∧ (2 * T + x) / B % 2 = (if B ≤ 2 * (T % B) + x then 1 else 0) := by
  have h1 := Nat.div_add_mod T B
  have h2 := Nat.mod_lt T hB
  generalize T % B = r at *
  generalize T / B = q at *
  have e : 2 * T + x = (2 * r + x) + B * (2 * q) := by
    rw [← h1, Nat.mul_left_comm B 2 q]; omega
  rw [e, Nat.add_mul_mod_self_left, Nat.add_mul_div_left _ _ hB]
  split
  · rename_i h
    have e2 : 2 * r + x = (2 * r + x - B) + B * 1 := by omega
    constructor
    · rw [e2, Nat.add_mul_mod_self_left, Nat.mod_eq_of_lt (by omega)]; omega
    · rw [e2, Nat.add_mul_div_left _ _ hB, Nat.div_eq_of_lt (by omega)]; omega
  · rename_i h
    constructor
    · exact Nat.mod_eq_of_lt (by omega)
    · rw [Nat.div_eq_of_lt (by omega)]; omega

theorem bit_down (A g : Nat) : A / 2 ^ g = 2 * (A / 2 ^ (g + 1)) + (A.testBit g).toNat := by
  rw [Nat.pow_succ, ← Nat.div_div_eq_div_mul, Nat.testBit_eq_decide_div_mod_eq]
  generalize A / 2 ^ g = n
  rcases Nat.mod_two_eq_zero_or_one n with h | h <;> simp [h] <;> omega

/-- What is left over ahead of the bit g. -/
def left (A B g : Nat) : Nat := A / 2 ^ g % B

theorem left_start (A B : Nat) (h : A < 18446744073709551616) : left A B 64 = 0 := by
  unfold left; rw [Nat.div_eq_of_lt (by simpa using h)]; simp
theorem left_end (A B : Nat) : left A B 0 = A % B := by unfold left; simp
theorem left_lt (A B g : Nat) (hB : 0 < B) : left A B g < B := Nat.mod_lt _ hB
theorem left_next (A B g : Nat) (hB : 0 < B) : left A B g = if B ≤ 2 * left A B (g + 1) + (A.testBit g).toNat then 2 * left A B (g + 1) + (A.testBit g).toNat - B else 2 * left A B (g + 1) + (A.testBit g).toNat := by
  unfold left
  rw [bit_down A g]
  exact (step_num _ _ _ hB (Bool.toNat_lt _)).1
theorem quo_bit (A B g : Nat) (hB : 0 < B) : (A / B).testBit g = decide (B ≤ 2 * left A B (g + 1) + (A.testBit g).toNat) := by
  rw [Nat.testBit_eq_decide_div_mod_eq, Nat.div_div_eq_div_mul, Nat.mul_comm, ← Nat.div_div_eq_div_mul, bit_down A g, (step_num _ _ _ hB (Bool.toNat_lt _)).2]
  unfold left
  by_cases h : B ≤ 2 * (A / 2 ^ (g + 1) % B) + (A.testBit g).toNat <;> simp [h]

theorem word_neg (r : Nat) (h : r < 18446744073709551616) : wrap64 (r : Int) < 0 ↔ 9223372036854775808 ≤ r := by unfold wrap64; omega
theorem word_two (r : Nat) : wrap64 (wrap64 (r : Int) + wrap64 (r : Int)) = wrap64 ((2 * r : Nat) : Int) := by unfold wrap64; omega
theorem word_one (r : Nat) : wrap64 (wrap64 (r : Int) + 1) = wrap64 ((r + 1 : Nat) : Int) := by unfold wrap64; omega
theorem word_less (n : Nat) (b : Int) (h : toU b ≤ n) : wrap64 (wrap64 (n : Int) - b) = wrap64 ((n - toU b : Nat) : Int) := by
  have := toU_cast b
  unfold wrap64; omega
theorem word_toU (n : Nat) (h : n < 18446744073709551616) : toU (wrap64 (n : Int)) = n := by unfold toU wrap64; omega
theorem word_low (n : Int) : -9223372036854775808 ≤ wrap64 n := by unfold wrap64; omega
theorem word_high (n : Int) : wrap64 n ≤ 9223372036854775807 := by unfold wrap64; omega

set_option maxHeartbeats 2000000 in
theorem divide_calls (a b : Int) (a0 : -9223372036854775808 ≤ a) (a1 : a ≤ 9223372036854775807) (b0 : -9223372036854775808 ≤ b) (b1 : b ≤ 9223372036854775807) (hb : Hid (0 < toU b)) (w : World) :
    Calls Try.prog 77 #[.int .i64 a, .int .i64 b] w fun e w' => e = .returned (.tuple #[.int .i64 (wrap64 ((toU a / toU b : Nat) : Int)), .int .i64 (wrap64 ((toU a % toU b : Nat) : Int))]) ∧ More w w' := by
  obtain ⟨Q, hQ⟩ : ∃ Q, Hid (toU a / toU b = Q) := ⟨_, rfl⟩
  obtain ⟨M, hM⟩ : ∃ M, Hid (wrap64 ((toU a % toU b : Nat) : Int) = M) := ⟨_, rfl⟩
  rw [hQ.out, hM.out]
  go_enter Try.func77, Try.ntmps77
  go_wp2_with (fail)
  refine (bits_cells a a0 a1 _).mono ?_
  rintro e w1 ⟨cx, rfl, hx, m1⟩
  go_wp2_with (refine wpList_store_row rfl 113 (.tmp 6) (.tmp 12) rfl _ _ rfl rfl 113 _ (heap_alloc_last _ _) (info_of hx) (size_of hx) (one_of hx) ?_; rw [World.setRow_alloc_new])
  have H0 := St3.start2 (c1 := cx) (c3 := part Q 0) m1
  go_loopg [8, 9] 64 (fun g r i wr => ∃ (rv : Int), g ≤ 64 ∧ Hid (rv = wrap64 ((left (toU a) (toU b) g : Nat) : Int)) ∧ i = .int .i64 ((g : Int) - 1) ∧ r = .int .i64 rv ∧ St3 w w1.heap.size w1.heap.size (w1.heap.size + 1) cx cx (top Q g) wr)
  case atStart =>
    refine ⟨0, by omega, ?_, rfl, rfl, ?_⟩
    · show (0 : Int) = _
      rw [left_start _ _ (toU_lt a)]; unfold wrap64; omega
    · rw [top_start]
      rw [part_lit] at H0 ⊢
      exact H0
  case round =>
    obtain ⟨rv, hg64, hrv, rfl, rfl, hst⟩ := hrel
    clear H0 m1
    cases gk with
    | zero =>
      have hg := hst.three
      have hm := hst.more
      rw [top_all] at hg
      have hQl : Hid (Q < 18446744073709551616) := by
        show Q < 18446744073709551616
        rw [← hQ.out]; exact Nat.lt_of_le_of_lt (Nat.div_le_self _ _) (toU_lt a)
      have hr2 : Hid (rv = M) := by
        show rv = M
        rw [hrv.out, left_end, hM.out]
      clear hst
      go_wp2_with (refine wpList_load_row rfl 113 (.tmp 7) rfl _ rfl 113 _ (0, 0) _ hg Try.underlying113 rfl (info_arr _) ?_)
      refine (of_num Q hQl.out _).mono ?_
      rintro e w3 ⟨rfl, m3⟩
      go_wp2
      go_ret2
      exact ⟨by rw [← hr2.out]; rfl, hm.trans m3⟩
    | succ g =>
      have hk : g < 64 := by omega
      have hk' : (g : Int) < 64 := by omega
      have eg : (((g + 1 : Nat)) : Int) - 1 = (g : Int) := by omega
      rw [eg]
      have hR := left_lt (toU a) (toU b) (g + 1) hb.out
      have hRB := toU_lt b
      obtain ⟨x, ex⟩ : ∃ x, (toU a).testBit g = x := ⟨_, rfl⟩
      have c1 : wr.cell? ⟨w1.heap.size, g, none⟩ = some (.bool x) := by rw [cell_of_row _ _ _ _ _ _ hst.one, get_of hx g hk, ex]
      have c3 : wr.cell? ⟨w1.heap.size + 1, g, none⟩ = some (.bool false) := by rw [cell_of_row _ _ _ _ _ _ hst.three]; unfold top; rw [arr_get _ _ hk]; simp; omega
      have f3 : wr.frozen? ⟨w1.heap.size + 1, g, none⟩ = false := frozen_of_row _ _ _ _ _ hst.three
      have Hst : Hid (St3 w w1.heap.size w1.heap.size (w1.heap.size + 1) cx cx (top Q (g + 1)) wr) := hst
      clear hst eg
      obtain ⟨r2, h2⟩ : ∃ r, wrap64 (rv + rv) = r := ⟨_, rfl⟩
      have H2 : Hid (r2 = wrap64 ((2 * left (toU a) (toU b) (g + 1) : Nat) : Int)) := by
        show r2 = _
        rw [← h2, hrv.out]; exact word_two _
      have r20 : -9223372036854775808 ≤ r2 := h2 ▸ word_low _
      have r21 : r2 ≤ 9223372036854775807 := h2 ▸ word_high _
      cases x with
      | true =>
        have HX : Hid ((toU a).testBit g = true) := ex
        clear ex
        obtain ⟨r3, h3⟩ : ∃ r, wrap64 (r2 + 1) = r := ⟨_, rfl⟩
        have H3 : Hid (r3 = wrap64 ((2 * left (toU a) (toU b) (g + 1) + 1 : Nat) : Int)) := by
          show r3 = _
          rw [← h3, H2.out]; exact word_one _
        have r30 : -9223372036854775808 ≤ r3 := h3 ▸ word_low _
        have r31 : r3 ≤ 9223372036854775807 := h3 ▸ word_high _
        by_cases hov : 9223372036854775808 ≤ left (toU a) (toU b) (g + 1)
        · have ho : rv < 0 := by rw [hrv.out]; exact (word_neg _ (by omega)).2 hov
          · have Hn : Hid (left (toU a) (toU b) g = 2 * left (toU a) (toU b) (g + 1) + 1 - toU b) := by
              show left (toU a) (toU b) g = _
              rw [left_next _ _ _ hb.out, HX.out]; simp only [Bool.toNat_true]; rw [if_pos (by omega)]
            have Hq : Hid (Q.testBit g = true) := by
              show Q.testBit g = _
              rw [← hQ.out, quo_bit _ _ _ hb.out, HX.out]; simp only [Bool.toNat_true]; simp; omega
            have Hs : Hid (wrap64 (r3 - b) = wrap64 (((2 * left (toU a) (toU b) (g + 1) + 1) - toU b : Nat) : Int)) := by
              show wrap64 (r3 - b) = _
              rw [H3.out]; exact word_less _ _ (by omega)
            clear hR hRB
            go_wp2_with fail
            go_roundg g
            case measure => omega
            case rel => exact ⟨_, by omega, Hs.out.trans (by rw [Hn.out]), by first | rfl | simp, rfl, Hst.out.set g _ (top_next _ g _ Hq.out)⟩
        · have ho : ¬ rv < 0 := by rw [hrv.out]; exact fun h => hov ((word_neg _ (by omega)).1 h)
          have HT : Hid (toU r3 = 2 * left (toU a) (toU b) (g + 1) + 1) := by
            show toU r3 = _
            rw [H3.out]; exact word_toU _ (by omega)
          by_cases hlt : 2 * left (toU a) (toU b) (g + 1) + 1 < toU b
          · have hbel : ∀ wx : World, Calls Try.prog 65 #[.int .i64 r3, .int .i64 b] wx fun e w' => e = .returned (.bool true) ∧ w' = wx := fun wx => by
              have h := below_calls r3 b r30 r31 b0 b1 wx
              rw [HT.out] at h
              have hd : decide (2 * left (toU a) (toU b) (g + 1) + 1 < toU b) = true := by simp; omega
              rw [hd] at h
              exact h
            have Hn : Hid (left (toU a) (toU b) g = 2 * left (toU a) (toU b) (g + 1) + 1) := by
              show left (toU a) (toU b) g = _
              rw [left_next _ _ _ hb.out, HX.out]; simp only [Bool.toNat_true]; rw [if_neg (by omega)]
            have Hq : Hid (Q.testBit g = false) := by
              show Q.testBit g = _
              rw [← hQ.out, quo_bit _ _ _ hb.out, HX.out]; simp only [Bool.toNat_true]; simp; omega
            clear hR hRB
            go_wp2_with (go_at_call 65; refine (hbel _).mono ?_; rintro e w' ⟨rfl, hw⟩; rw [hw])
            go_roundg g
            case measure => omega
            case rel => exact ⟨_, by omega, H3.out.trans (by rw [Hn.out]), by first | rfl | simp, rfl, top_skip _ g Hq.out ▸ Hst.out⟩
          · have hbel : ∀ wx : World, Calls Try.prog 65 #[.int .i64 r3, .int .i64 b] wx fun e w' => e = .returned (.bool false) ∧ w' = wx := fun wx => by
              have h := below_calls r3 b r30 r31 b0 b1 wx
              rw [HT.out] at h
              have hd : decide (2 * left (toU a) (toU b) (g + 1) + 1 < toU b) = false := by simp; omega
              rw [hd] at h
              exact h
            have Hn : Hid (left (toU a) (toU b) g = 2 * left (toU a) (toU b) (g + 1) + 1 - toU b) := by
              show left (toU a) (toU b) g = _
              rw [left_next _ _ _ hb.out, HX.out]; simp only [Bool.toNat_true]; rw [if_pos (by omega)]
            have Hq : Hid (Q.testBit g = true) := by
              show Q.testBit g = _
              rw [← hQ.out, quo_bit _ _ _ hb.out, HX.out]; simp only [Bool.toNat_true]; simp; omega
            have Hs : Hid (wrap64 (r3 - b) = wrap64 (((2 * left (toU a) (toU b) (g + 1) + 1) - toU b : Nat) : Int)) := by
              show wrap64 (r3 - b) = _
              rw [H3.out]; exact word_less _ _ (by omega)
            clear hR hRB
            go_wp2_with (go_at_call 65; refine (hbel _).mono ?_; rintro e w' ⟨rfl, hw⟩; rw [hw])
            go_roundg g
            case measure => omega
            case rel => exact ⟨_, by omega, Hs.out.trans (by rw [Hn.out]), by first | rfl | simp, rfl, Hst.out.set g _ (top_next _ g _ Hq.out)⟩
      | false =>
        have HX : Hid ((toU a).testBit g = false) := ex
        clear ex
        have H3 := H2
        by_cases hov : 9223372036854775808 ≤ left (toU a) (toU b) (g + 1)
        · have ho : rv < 0 := by rw [hrv.out]; exact (word_neg _ (by omega)).2 hov
          · have Hn : Hid (left (toU a) (toU b) g = 2 * left (toU a) (toU b) (g + 1) - toU b) := by
              show left (toU a) (toU b) g = _
              rw [left_next _ _ _ hb.out, HX.out]; simp only [Bool.toNat_false, Nat.add_zero]; rw [if_pos (by omega)]
            have Hq : Hid (Q.testBit g = true) := by
              show Q.testBit g = _
              rw [← hQ.out, quo_bit _ _ _ hb.out, HX.out]; simp only [Bool.toNat_false, Nat.add_zero]; simp; omega
            have Hs : Hid (wrap64 (r2 - b) = wrap64 (((2 * left (toU a) (toU b) (g + 1)) - toU b : Nat) : Int)) := by
              show wrap64 (r2 - b) = _
              rw [H3.out]; exact word_less _ _ (by omega)
            clear hR hRB
            go_wp2_with fail
            go_roundg g
            case measure => omega
            case rel => exact ⟨_, by omega, Hs.out.trans (by rw [Hn.out]), by first | rfl | simp, rfl, Hst.out.set g _ (top_next _ g _ Hq.out)⟩
        · have ho : ¬ rv < 0 := by rw [hrv.out]; exact fun h => hov ((word_neg _ (by omega)).1 h)
          have HT : Hid (toU r2 = 2 * left (toU a) (toU b) (g + 1)) := by
            show toU r2 = _
            rw [H3.out]; exact word_toU _ (by omega)
          by_cases hlt : 2 * left (toU a) (toU b) (g + 1) < toU b
          · have hbel : ∀ wx : World, Calls Try.prog 65 #[.int .i64 r2, .int .i64 b] wx fun e w' => e = .returned (.bool true) ∧ w' = wx := fun wx => by
              have h := below_calls r2 b r20 r21 b0 b1 wx
              rw [HT.out] at h
              have hd : decide (2 * left (toU a) (toU b) (g + 1) < toU b) = true := by simp; omega
              rw [hd] at h
              exact h
            have Hn : Hid (left (toU a) (toU b) g = 2 * left (toU a) (toU b) (g + 1)) := by
              show left (toU a) (toU b) g = _
              rw [left_next _ _ _ hb.out, HX.out]; simp only [Bool.toNat_false, Nat.add_zero]; rw [if_neg (by omega)]
            have Hq : Hid (Q.testBit g = false) := by
              show Q.testBit g = _
              rw [← hQ.out, quo_bit _ _ _ hb.out, HX.out]; simp only [Bool.toNat_false, Nat.add_zero]; simp; omega
            clear hR hRB
            go_wp2_with (go_at_call 65; refine (hbel _).mono ?_; rintro e w' ⟨rfl, hw⟩; rw [hw])
            go_roundg g
            case measure => omega
            case rel => exact ⟨_, by omega, H3.out.trans (by rw [Hn.out]), by first | rfl | simp, rfl, top_skip _ g Hq.out ▸ Hst.out⟩
          · have hbel : ∀ wx : World, Calls Try.prog 65 #[.int .i64 r2, .int .i64 b] wx fun e w' => e = .returned (.bool false) ∧ w' = wx := fun wx => by
              have h := below_calls r2 b r20 r21 b0 b1 wx
              rw [HT.out] at h
              have hd : decide (2 * left (toU a) (toU b) (g + 1) < toU b) = false := by simp; omega
              rw [hd] at h
              exact h
            have Hn : Hid (left (toU a) (toU b) g = 2 * left (toU a) (toU b) (g + 1) - toU b) := by
              show left (toU a) (toU b) g = _
              rw [left_next _ _ _ hb.out, HX.out]; simp only [Bool.toNat_false, Nat.add_zero]; rw [if_pos (by omega)]
            have Hq : Hid (Q.testBit g = true) := by
              show Q.testBit g = _
              rw [← hQ.out, quo_bit _ _ _ hb.out, HX.out]; simp only [Bool.toNat_false, Nat.add_zero]; simp; omega
            have Hs : Hid (wrap64 (r2 - b) = wrap64 (((2 * left (toU a) (toU b) (g + 1)) - toU b : Nat) : Int)) := by
              show wrap64 (r2 - b) = _
              rw [H3.out]; exact word_less _ _ (by omega)
            clear hR hRB
            go_wp2_with (go_at_call 65; refine (hbel _).mono ?_; rintro e w' ⟨rfl, hw⟩; rw [hw])
            go_roundg g
            case measure => omega
            case rel => exact ⟨_, by omega, Hs.out.trans (by rw [Hn.out]), by first | rfl | simp, rfl, Hst.out.set g _ (top_next _ g _ Hq.out)⟩
theorem ref_1 (a b : Int) (w : World) :
    Calls Try.prog 68 #[.int .i64 1, .int .i64 a, .int .i64 b] w fun e w' => e = .returned (.int .i64 (wrap64 (a + b))) ∧ More w w' := by
  go_enter Try.func68, Try.ntmps68
  go_wp2
  go_ret
  exact ⟨rfl, More.refl _⟩

theorem ref_2 (a b : Int) (w : World) :
    Calls Try.prog 68 #[.int .i64 2, .int .i64 a, .int .i64 b] w fun e w' => e = .returned (.int .i64 (wrap64 (a - b))) ∧ More w w' := by
  go_enter Try.func68, Try.ntmps68
  go_wp2
  go_ret
  exact ⟨rfl, More.refl _⟩

theorem ref_3 (a b : Int) (w : World) :
    Calls Try.prog 68 #[.int .i64 3, .int .i64 a, .int .i64 b] w fun e w' => e = .returned (.int .i64 (wrap64 (a * b))) ∧ More w w' := by
  go_enter Try.func68, Try.ntmps68
  go_wp2
  go_ret
  exact ⟨rfl, More.refl _⟩

theorem ref_4 (a b : Int) (a0 : -9223372036854775808 ≤ a) (a1 : a ≤ 9223372036854775807) (b0 : -9223372036854775808 ≤ b) (b1 : b ≤ 9223372036854775807) (w : World) :
    Calls Try.prog 68 #[.int .i64 4, .int .i64 a, .int .i64 b] w fun e w' => e = .returned (.int .i64 (wrap64 ((toU a &&& toU b : Nat) : Int))) ∧ More w w' := by
  obtain ⟨U, hU⟩ : ∃ U, toU a &&& toU b = U := ⟨_, rfl⟩
  have c := bitwise_and a b U a0 a1 b0 b1 (by show U < _; rw [← hU]; exact Nat.lt_of_le_of_lt Nat.and_le_left (toU_lt a)) (by show ∀ k, _; intro k; rw [← hU]; exact Nat.testBit_and _ _ _) w
  rw [hU]
  clear hU
  go_enter Try.func68, Try.ntmps68
  go_wp2_with (fail)
  refine c.mono ?_
  rintro e w1 ⟨rfl, m1⟩
  go_wp2
  go_ret
  exact ⟨rfl, m1⟩

theorem ref_5 (a b : Int) (a0 : -9223372036854775808 ≤ a) (a1 : a ≤ 9223372036854775807) (b0 : -9223372036854775808 ≤ b) (b1 : b ≤ 9223372036854775807) (w : World) :
    Calls Try.prog 68 #[.int .i64 5, .int .i64 a, .int .i64 b] w fun e w' => e = .returned (.int .i64 (wrap64 ((toU a ||| toU b : Nat) : Int))) ∧ More w w' := by
  obtain ⟨U, hU⟩ : ∃ U, toU a ||| toU b = U := ⟨_, rfl⟩
  have c := bitwise_or a b U a0 a1 b0 b1 (by show U < _; rw [← hU]; exact Nat.or_lt_two_pow (n := 64) (toU_lt a) (toU_lt b)) (by show ∀ k, _; intro k; rw [← hU]; exact Nat.testBit_or _ _ _) w
  rw [hU]
  clear hU
  go_enter Try.func68, Try.ntmps68
  go_wp2_with (fail)
  refine c.mono ?_
  rintro e w1 ⟨rfl, m1⟩
  go_wp2
  go_ret
  exact ⟨rfl, m1⟩

theorem ref_6 (a b : Int) (a0 : -9223372036854775808 ≤ a) (a1 : a ≤ 9223372036854775807) (b0 : -9223372036854775808 ≤ b) (b1 : b ≤ 9223372036854775807) (w : World) :
    Calls Try.prog 68 #[.int .i64 6, .int .i64 a, .int .i64 b] w fun e w' => e = .returned (.int .i64 (wrap64 ((toU a ^^^ toU b : Nat) : Int))) ∧ More w w' := by
  obtain ⟨U, hU⟩ : ∃ U, toU a ^^^ toU b = U := ⟨_, rfl⟩
  have c := bitwise_xor a b U a0 a1 b0 b1 (by show U < _; rw [← hU]; exact Nat.xor_lt_two_pow (n := 64) (toU_lt a) (toU_lt b)) (by show ∀ k, _; intro k; rw [← hU]; exact Nat.testBit_xor _ _ _) w
  rw [hU]
  clear hU
  go_enter Try.func68, Try.ntmps68
  go_wp2_with (fail)
  refine c.mono ?_
  rintro e w1 ⟨rfl, m1⟩
  go_wp2
  go_ret
  exact ⟨rfl, m1⟩

theorem ref_other (op a b : Int) (w : World) (h : op < 1 ∨ 10 < op) :
    Calls Try.prog 68 #[.int .i64 op, .int .i64 a, .int .i64 b] w fun e w' => e = .returned (.int .i64 0) ∧ More w w' := by
  have e1 : (op == 1) = false := by simp; omega
  have e2 : (op == 2) = false := by simp; omega
  have e3 : (op == 3) = false := by simp; omega
  have e4 : (op == 4) = false := by simp; omega
  have e5 : (op == 5) = false := by simp; omega
  have e6 : (op == 6) = false := by simp; omega
  have e7 : (op == 7) = false := by simp; omega
  have e8 : (op == 8) = false := by simp; omega
  have e9 : (op == 9) = false := by simp; omega
  have e10 : (op == 10) = false := by simp; omega
  clear h
  go_enter Try.func68, Try.ntmps68
  go_wp2
  go_ret
  exact ⟨rfl, More.refl _⟩

theorem ref_9_zero (a : Int) (w : World) :
    Calls Try.prog 68 #[.int .i64 9, .int .i64 a, .int .i64 0] w fun e w' => e = .returned (.int .i64 0) ∧ More w w' := by
  go_enter Try.func68, Try.ntmps68
  go_wp2
  go_ret
  exact ⟨rfl, More.refl _⟩

theorem ref_9_more (a b : Int) (a0 : -9223372036854775808 ≤ a) (a1 : a ≤ 9223372036854775807) (b0 : -9223372036854775808 ≤ b) (b1 : b ≤ 9223372036854775807) (hb : (b == 0) = false) (w : World) :
    Calls Try.prog 68 #[.int .i64 9, .int .i64 a, .int .i64 b] w fun e w' => e = .returned (.int .i64 (wrap64 ((toU a / toU b : Nat) : Int))) ∧ More w w' := by
  have hB : Hid (0 < toU b) := by
    show 0 < toU b
    have : b ≠ 0 := by simpa using hb
    unfold toU; omega
  have c := divide_calls a b a0 a1 b0 b1 hB w
  obtain ⟨q, hq⟩ : ∃ q, wrap64 ((toU a / toU b : Nat) : Int) = q := ⟨_, rfl⟩
  obtain ⟨r, hr⟩ : ∃ r, wrap64 ((toU a % toU b : Nat) : Int) = r := ⟨_, rfl⟩
  rw [hq, hr] at c
  rw [hq]
  clear hq hr
  go_enter Try.func68, Try.ntmps68
  go_wp2_with (fail)
  refine c.mono ?_
  rintro e w1 ⟨rfl, m1⟩
  go_wp2
  go_ret
  exact ⟨rfl, m1⟩

theorem ref_10_zero (a : Int) (w : World) :
    Calls Try.prog 68 #[.int .i64 10, .int .i64 a, .int .i64 0] w fun e w' => e = .returned (.int .i64 a) ∧ More w w' := by
  go_enter Try.func68, Try.ntmps68
  go_wp2
  go_ret
  exact ⟨rfl, More.refl _⟩

theorem ref_10_more (a b : Int) (a0 : -9223372036854775808 ≤ a) (a1 : a ≤ 9223372036854775807) (b0 : -9223372036854775808 ≤ b) (b1 : b ≤ 9223372036854775807) (hb : (b == 0) = false) (w : World) :
    Calls Try.prog 68 #[.int .i64 10, .int .i64 a, .int .i64 b] w fun e w' => e = .returned (.int .i64 (wrap64 ((toU a % toU b : Nat) : Int))) ∧ More w w' := by
  have hB : Hid (0 < toU b) := by
    show 0 < toU b
    have : b ≠ 0 := by simpa using hb
    unfold toU; omega
  have c := divide_calls a b a0 a1 b0 b1 hB w
  obtain ⟨q, hq⟩ : ∃ q, wrap64 ((toU a / toU b : Nat) : Int) = q := ⟨_, rfl⟩
  obtain ⟨r, hr⟩ : ∃ r, wrap64 ((toU a % toU b : Nat) : Int) = r := ⟨_, rfl⟩
  rw [hq, hr] at c
  rw [hr]
  clear hq hr
  go_enter Try.func68, Try.ntmps68
  go_wp2_with (fail)
  refine c.mono ?_
  rintro e w1 ⟨rfl, m1⟩
  go_wp2
  go_ret
  exact ⟨rfl, m1⟩

set_option maxHeartbeats 1000000 in
theorem ref_7 (a b : Int) (R : Int) (b0 : -9223372036854775808 ≤ b) (b1 : b ≤ 9223372036854775807)
    (hR : Hid (∀ w : World, Calls Try.prog 76 #[.int .i64 a, .int .i64 (((toU b % 64 : Nat) : Int))] w fun e w' => e = .returned (.int .i64 R) ∧ More w w')) (w : World) :
    Calls Try.prog 68 #[.int .i64 7, .int .i64 a, .int .i64 b] w fun e w' => e = .returned (.int .i64 R) ∧ More w w' := by
  go_enter Try.func68, Try.ntmps68
  go_wp2_with (fail)
  refine (bits_cells b b0 b1 _).mono ?_
  rintro e w1 ⟨cy, rfl, hy, m1⟩
  go_wp2_with (refine wpList_store_row rfl 113 (.tmp 7) (.tmp 41) rfl _ _ rfl rfl 113 _ (heap_alloc_last _ _) (info_of hy) (size_of hy) (one_of hy) ?_; rw [World.setRow_alloc_new])
  have H0 := (m1.alloc cy 113)
  have hsz := (size_of hy).symm
  go_loopg [8, 9, 10] 6 (fun g sv pv i wr => ∃ (k : Nat) (s p : Int), k + g = 6 ∧ Hid (s = ((toU b % 2 ^ k : Nat) : Int)) ∧ Hid (p = ((2 ^ k : Nat) : Int)) ∧ 0 ≤ s ∧ s < 64 ∧ 0 ≤ p ∧ p ≤ 64 ∧ sv = .int .i64 s ∧ pv = .int .i64 p ∧ i = .int .i64 k ∧ wr = w1.alloc (.cells cy 113))
  case atStart => exact ⟨0, 0, 1, by omega, by show (0 : Int) = _; simp [Nat.mod_one], rfl, by omega, by omega, by omega, by omega, rfl, rfl, rfl, rfl⟩
  case round =>
    obtain ⟨k, s, p, hkg, hs, hp, s0, s1, p0, p1, rfl, rfl, rfl, rfl⟩ := hrel
    cases gk with
    | zero =>
      obtain rfl : k = 6 := by omega
      have c := hR.out (w1.alloc (.cells cy 113))
      rw [show ((toU b % 64 : Nat) : Int) = s from hs.out.symm] at c
      go_wp2_with (fail)
      refine c.mono ?_
      rintro e w2 ⟨rfl, m2⟩
      go_wp2
      go_ret
      exact ⟨rfl, H0.trans m2⟩
    | succ g =>
      have hk : k < 6 := by omega
      have hk64 : k < 64 := by omega
      have hk' : (k : Int) < 64 := by omega
      have hk6 : (k : Int) < 6 := by omega
      obtain ⟨x, ex⟩ : ∃ x, (toU b).testBit k = x := ⟨_, rfl⟩
      have hcs : cy[k]'(by omega) = .bool x := by have h := get_of hy k (by omega); rw [ex] at h; exact (Array.getElem?_eq_some_iff.1 h).2
      have hpw : Hid (p + p = ((2 ^ (k + 1) : Nat) : Int)) := by show p + p = _; rw [hp.out, Nat.pow_succ]; omega
      have hpb : p ≤ 32 := by
        rw [hp.out]
        have : 2 ^ k ≤ 2 ^ 5 := Nat.pow_le_pow_right (by omega) (by omega)
        omega
      have hmod : toU b % 2 ^ (k + 1) = toU b % 2 ^ k + 2 ^ k * (toU b / 2 ^ k % 2) := Nat.mod_pow_succ
      have htb := Nat.testBit_eq_decide_div_mod_eq (x := toU b) (i := k)
      rw [ex] at htb
      cases x with
      | true =>
        have h1 : toU b / 2 ^ k % 2 = 1 := by simpa using htb.symm
        have hsn : Hid (s + p = ((toU b % 2 ^ (k + 1) : Nat) : Int)) := by
          show s + p = _
          rw [hmod, h1, hs.out, hp.out]; push_cast; omega
        have hsb : s + p < 64 := by
          rw [hsn.out]
          have h2 : toU b % 2 ^ (k + 1) < 2 ^ (k + 1) := Nat.mod_lt _ (Nat.pow_pos (by decide))
          have h3 : 2 ^ (k + 1) ≤ 2 ^ 6 := Nat.pow_le_pow_right (by omega) (by omega)
          omega
        clear hmod htb h1 ex
        go_wp2
        go_roundg g
        case measure => omega
        case rel => exact ⟨k + 1, s + p, p + p, by omega, hsn, hpw, by omega, by omega, by omega, by omega, rfl, rfl, by first | rfl | simp, rfl⟩
      | false =>
        have h1 : toU b / 2 ^ k % 2 = 0 := by
          have h2 : ¬ toU b / 2 ^ k % 2 = 1 := by simpa using htb.symm
          omega
        have hsn : Hid (s = ((toU b % 2 ^ (k + 1) : Nat) : Int)) := by
          show s = _
          rw [hmod, h1, hs.out]; simp
        clear hmod htb h1 ex
        go_wp2
        go_roundg g
        case measure => omega
        case rel => exact ⟨k + 1, s, p + p, by omega, hsn, hpw, by omega, by omega, by omega, by omega, rfl, rfl, by first | rfl | simp, rfl⟩

set_option maxHeartbeats 1000000 in
theorem ref_8 (a b : Int) (R : Int) (b0 : -9223372036854775808 ≤ b) (b1 : b ≤ 9223372036854775807)
    (hR : Hid (∀ w : World, Calls Try.prog 76 #[.int .i64 a, .int .i64 (-((toU b % 64 : Nat) : Int))] w fun e w' => e = .returned (.int .i64 R) ∧ More w w')) (w : World) :
    Calls Try.prog 68 #[.int .i64 8, .int .i64 a, .int .i64 b] w fun e w' => e = .returned (.int .i64 R) ∧ More w w' := by
  go_enter Try.func68, Try.ntmps68
  go_wp2_with (fail)
  refine (bits_cells b b0 b1 _).mono ?_
  rintro e w1 ⟨cy, rfl, hy, m1⟩
  go_wp2_with (refine wpList_store_row rfl 113 (.tmp 7) (.tmp 41) rfl _ _ rfl rfl 113 _ (heap_alloc_last _ _) (info_of hy) (size_of hy) (one_of hy) ?_; rw [World.setRow_alloc_new])
  have H0 := (m1.alloc cy 113)
  have hsz := (size_of hy).symm
  go_loopg [8, 9, 10] 6 (fun g sv pv i wr => ∃ (k : Nat) (s p : Int), k + g = 6 ∧ Hid (s = ((toU b % 2 ^ k : Nat) : Int)) ∧ Hid (p = ((2 ^ k : Nat) : Int)) ∧ 0 ≤ s ∧ s < 64 ∧ 0 ≤ p ∧ p ≤ 64 ∧ sv = .int .i64 s ∧ pv = .int .i64 p ∧ i = .int .i64 k ∧ wr = w1.alloc (.cells cy 113))
  case atStart => exact ⟨0, 0, 1, by omega, by show (0 : Int) = _; simp [Nat.mod_one], rfl, by omega, by omega, by omega, by omega, rfl, rfl, rfl, rfl⟩
  case round =>
    obtain ⟨k, s, p, hkg, hs, hp, s0, s1, p0, p1, rfl, rfl, rfl, rfl⟩ := hrel
    cases gk with
    | zero =>
      obtain rfl : k = 6 := by omega
      have c := hR.out (w1.alloc (.cells cy 113))
      rw [show ((toU b % 64 : Nat) : Int) = s from hs.out.symm] at c
      go_wp2_with (fail)
      refine c.mono ?_
      rintro e w2 ⟨rfl, m2⟩
      go_wp2
      go_ret
      exact ⟨rfl, H0.trans m2⟩
    | succ g =>
      have hk : k < 6 := by omega
      have hk64 : k < 64 := by omega
      have hk' : (k : Int) < 64 := by omega
      have hk6 : (k : Int) < 6 := by omega
      obtain ⟨x, ex⟩ : ∃ x, (toU b).testBit k = x := ⟨_, rfl⟩
      have hcs : cy[k]'(by omega) = .bool x := by have h := get_of hy k (by omega); rw [ex] at h; exact (Array.getElem?_eq_some_iff.1 h).2
      have hpw : Hid (p + p = ((2 ^ (k + 1) : Nat) : Int)) := by show p + p = _; rw [hp.out, Nat.pow_succ]; omega
      have hpb : p ≤ 32 := by
        rw [hp.out]
        have : 2 ^ k ≤ 2 ^ 5 := Nat.pow_le_pow_right (by omega) (by omega)
        omega
      have hmod : toU b % 2 ^ (k + 1) = toU b % 2 ^ k + 2 ^ k * (toU b / 2 ^ k % 2) := Nat.mod_pow_succ
      have htb := Nat.testBit_eq_decide_div_mod_eq (x := toU b) (i := k)
      rw [ex] at htb
      cases x with
      | true =>
        have h1 : toU b / 2 ^ k % 2 = 1 := by simpa using htb.symm
        have hsn : Hid (s + p = ((toU b % 2 ^ (k + 1) : Nat) : Int)) := by
          show s + p = _
          rw [hmod, h1, hs.out, hp.out]; push_cast; omega
        have hsb : s + p < 64 := by
          rw [hsn.out]
          have h2 : toU b % 2 ^ (k + 1) < 2 ^ (k + 1) := Nat.mod_lt _ (Nat.pow_pos (by decide))
          have h3 : 2 ^ (k + 1) ≤ 2 ^ 6 := Nat.pow_le_pow_right (by omega) (by omega)
          omega
        clear hmod htb h1 ex
        go_wp2
        go_roundg g
        case measure => omega
        case rel => exact ⟨k + 1, s + p, p + p, by omega, hsn, hpw, by omega, by omega, by omega, by omega, rfl, rfl, by first | rfl | simp, rfl⟩
      | false =>
        have h1 : toU b / 2 ^ k % 2 = 0 := by
          have h2 : ¬ toU b / 2 ^ k % 2 = 1 := by simpa using htb.symm
          omega
        have hsn : Hid (s = ((toU b % 2 ^ (k + 1) : Nat) : Int)) := by
          show s = _
          rw [hmod, h1, hs.out]; simp
        clear hmod htb h1 ex
        go_wp2
        go_roundg g
        case measure => omega
        case rel => exact ⟨k + 1, s, p + p, by omega, hsn, hpw, by omega, by omega, by omega, by omega, rfl, rfl, by first | rfl | simp, rfl⟩

theorem wrap_mod (n : Nat) : wrap64 ((n % 18446744073709551616 : Nat) : Int) = wrap64 (n : Int) := by unfold wrap64; omega
theorem wrap_back (a : Int) (a0 : -9223372036854775808 ≤ a) (a1 : a ≤ 9223372036854775807) : wrap64 ((toU a : Nat) : Int) = a := by rw [toU_cast]; unfold wrap64; omega
theorem wrap_nil : wrap64 ((0 : Nat) : Int) = 0 := by unfold wrap64; omega

theorem shift_up (a b : Int) (a0 : -9223372036854775808 ≤ a) (a1 : a ≤ 9223372036854775807) (w : World) :
    Calls Try.prog 76 #[.int .i64 a, .int .i64 (((toU b % 64 : Nat)) : Int)] w fun e w' => e = .returned (.int .i64 (wrap64 ((toU a * 2 ^ (toU b % 64) : Nat) : Int))) ∧ More w w' := by
  have hs : toU b % 64 < 64 := Nat.mod_lt _ (by decide)
  generalize toU b % 64 = s at *
  rw [← wrap_mod]
  refine shift_calls a (s : Int) _ a0 a1 (by omega) (by omega) (Nat.mod_lt _ (by decide)) ?_ w
  show ∀ k, _
  intro k hk
  have e : (18446744073709551616 : Nat) = 2 ^ 64 := by decide
  rw [e, Nat.testBit_mod_two_pow, Nat.testBit_mul_two_pow]
  by_cases h : s ≤ k
  · have h1 : ((k : Int) - (s : Int)).toNat = k - s := by omega
    have h2 : (0 ≤ (k : Int) - (s : Int) ∧ (k : Int) - (s : Int) < 64) := by omega
    rw [h1]; simp [hk, h, h2]
  · have h2 : ¬ (0 ≤ (k : Int) - (s : Int) ∧ (k : Int) - (s : Int) < 64) := by omega
    simp only [h, h2]; simp

theorem shift_down (a b : Int) (a0 : -9223372036854775808 ≤ a) (a1 : a ≤ 9223372036854775807) (w : World) :
    Calls Try.prog 76 #[.int .i64 a, .int .i64 (-(((toU b % 64 : Nat)) : Int))] w fun e w' => e = .returned (.int .i64 (wrap64 ((toU a / 2 ^ (toU b % 64) : Nat) : Int))) ∧ More w w' := by
  have hs : toU b % 64 < 64 := Nat.mod_lt _ (by decide)
  generalize toU b % 64 = s at *
  refine shift_calls a (-(s : Int)) _ a0 a1 (by omega) (by omega) (Nat.lt_of_le_of_lt (Nat.div_le_self _ _) (toU_lt a)) ?_ w
  show ∀ k, _
  intro k hk
  have h1 : ((k : Int) - -(s : Int)).toNat = k + s := by omega
  rw [Nat.testBit_div_two_pow, h1]
  by_cases h : k + s < 64
  · rw [decide_eq_true (by omega), Bool.true_and]
  · have h2 : ¬ (0 ≤ (k : Int) - -(s : Int) ∧ (k : Int) - -(s : Int) < 64) := by omega
    have h3 : (toU a).testBit (k + s) = false := Nat.testBit_lt_two_pow (Nat.lt_of_lt_of_le (toU_lt a) (by
      have : 2 ^ 64 ≤ 2 ^ (k + s) := Nat.pow_le_pow_right (by decide) (by omega)
      omega))
    rw [h3]; simp

/-- evenkeelref1.Op, whatever the operation. -/
theorem ref_op (op a b : Int) (a0 : -9223372036854775808 ≤ a) (a1 : a ≤ 9223372036854775807) (b0 : -9223372036854775808 ≤ b) (b1 : b ≤ 9223372036854775807) (w : World) :
    Calls Try.prog 68 #[.int .i64 op, .int .i64 a, .int .i64 b] w fun e w' => e = .returned (.int .i64 (opI op a b)) ∧ More w w' := by
  by_cases h : op < 1 ∨ 10 < op
  · rw [show opI op a b = 0 by unfold opI; rw [if_neg (by omega), if_neg (by omega), if_neg (by omega), if_neg (by omega), if_neg (by omega), if_neg (by omega), if_neg (by omega), if_neg (by omega), if_neg (by omega), if_neg (by omega)]]
    exact ref_other op a b w h
  have hs : op = 1 ∨ op = 2 ∨ op = 3 ∨ op = 4 ∨ op = 5 ∨ op = 6 ∨ op = 7 ∨ op = 8 ∨ op = 9 ∨ op = 10 := by omega
  rcases hs with rfl | rfl | rfl | rfl | rfl | rfl | rfl | rfl | rfl | rfl
  · rw [opI_1]; exact ref_1 a b w
  · rw [opI_2]; exact ref_2 a b w
  · rw [opI_3]; exact ref_3 a b w
  · rw [opI_4]; exact ref_4 a b a0 a1 b0 b1 w
  · rw [opI_5]; exact ref_5 a b a0 a1 b0 b1 w
  · rw [opI_6]; exact ref_6 a b a0 a1 b0 b1 w
  · rw [opI_7]; exact ref_7 a b _ b0 b1 (fun w => shift_up a b a0 a1 w) w
  · rw [opI_8]; exact ref_8 a b _ b0 b1 (fun w => shift_down a b a0 a1 w) w
  · by_cases hb : b = 0
    · subst hb
      rw [opI_9, show toU 0 = 0 by unfold toU; omega, Nat.div_zero, wrap_nil]
      exact ref_9_zero a w
    · rw [opI_9]; exact ref_9_more a b a0 a1 b0 b1 (by simp [hb]) w
  · by_cases hb : b = 0
    · subst hb
      rw [opI_10, show toU 0 = 0 by unfold toU; omega, Nat.mod_zero, wrap_back a a0 a1]
      exact ref_10_zero a w
    · rw [opI_10]; exact ref_10_more a b a0 a1 b0 b1 (by simp [hb]) w

theorem rh_1 (a b : Int) (w : World) :
    Calls Try.prog 43 #[.int .i64 1, .int .i64 a, .int .i64 b] w fun e w' => e = .returned (.bool (a == b)) ∧ More w w' := by
  go_enter Try.func43, Try.ntmps43
  go_wp2
  go_ret
  exact ⟨rfl, More.refl _⟩
theorem rh_2 (a b : Int) (w : World) :
    Calls Try.prog 43 #[.int .i64 2, .int .i64 a, .int .i64 b] w fun e w' => e = .returned (.bool (a != b)) ∧ More w w' := by
  go_enter Try.func43, Try.ntmps43
  go_wp2
  go_ret
  exact ⟨rfl, More.refl _⟩
theorem rh_3 (a b : Int) (v : Bool) (hv : ∀ w : World, Calls Try.prog 65 #[.int .i64 a, .int .i64 b] w fun e w' => e = .returned (.bool v) ∧ w' = w) (w : World) :
    Calls Try.prog 43 #[.int .i64 3, .int .i64 a, .int .i64 b] w fun e w' => e = .returned (.bool v) ∧ More w w' := by
  go_enter Try.func43, Try.ntmps43
  go_wp2_with (fail)
  refine (hv w).mono ?_
  rintro e w' ⟨rfl, hw⟩
  rw [hw]
  go_wp2
  go_ret
  exact ⟨rfl, More.refl _⟩
theorem rh_4 (a b : Int) (v : Bool) (hv : ∀ w : World, Calls Try.prog 65 #[.int .i64 a, .int .i64 b] w fun e w' => e = .returned (.bool v) ∧ w' = w) (w : World) :
    Calls Try.prog 43 #[.int .i64 4, .int .i64 a, .int .i64 b] w fun e w' => e = .returned (.bool !v) ∧ More w w' := by
  go_enter Try.func43, Try.ntmps43
  go_wp2_with (fail)
  refine (hv w).mono ?_
  rintro e w' ⟨rfl, hw⟩
  rw [hw]
  go_wp2
  go_ret
  exact ⟨rfl, More.refl _⟩
theorem rh_other (c a b : Int) (w : World) (h1 : (c == 1) = false) (h2 : (c == 2) = false) (h3 : (c == 3) = false) (h4 : (c == 4) = false) :
    Calls Try.prog 43 #[.int .i64 c, .int .i64 a, .int .i64 b] w fun e w' => e = .returned (.bool false) ∧ More w w' := by
  go_enter Try.func43, Try.ntmps43
  go_wp2
  go_ret
  exact ⟨rfl, More.refl _⟩

/-- evenkeelref1.Holds, whatever the condition. -/
theorem ref_holds (c a b : Int) (a0 : -9223372036854775808 ≤ a) (a1 : a ≤ 9223372036854775807) (b0 : -9223372036854775808 ≤ b) (b1 : b ≤ 9223372036854775807) (w : World) :
    Calls Try.prog 43 #[.int .i64 c, .int .i64 a, .int .i64 b] w fun e w' => e = .returned (.bool (holdsI c a b)) ∧ More w w' := by
  by_cases h1 : c = 1
  · subst h1
    rw [show holdsI 1 a b = (a == b) by simp only [holdsI]; rw [Bool.eq_iff_iff]; simp; unfold toU; omega]
    exact rh_1 a b w
  by_cases h2 : c = 2
  · subst h2
    rw [show holdsI 2 a b = (a != b) by simp only [holdsI]; rw [Bool.eq_iff_iff]; simp; unfold toU; omega]
    exact rh_2 a b w
  by_cases h3 : c = 3
  · subst h3
    rw [show holdsI 3 a b = decide (toU a < toU b) by simp [holdsI]]
    exact rh_3 a b _ (fun w => below_calls a b a0 a1 b0 b1 w) w
  by_cases h4 : c = 4
  · subst h4
    rw [show holdsI 4 a b = !decide (toU a < toU b) by simp [holdsI]; rw [Bool.eq_iff_iff]; simp]
    exact rh_4 a b _ (fun w => below_calls a b a0 a1 b0 b1 w) w
  rw [show holdsI c a b = false by simp [holdsI, *]]
  exact rh_other c a b w (by simp [h1]) (by simp [h2]) (by simp [h3]) (by simp [h4])
theorem ref_put (op a b c n : Int) (w : World) :
    Calls Try.prog 42 #[.agg #[.int .i64 op, .int .i64 a, .int .i64 b, .int .i64 c, .int .i64 n]] w fun e w' => e = .returned (.int .i64 (putI ⟨op, a, b, c, n⟩)) ∧ More w w' := by
  by_cases h3 : op = 3
  · subst h3
    go_enter Try.func42, Try.ntmps42
    go_wp2
    go_ret
    exact ⟨by simp [putI], (More.refl _).alloc _ _⟩
  by_cases h5 : op = 5
  · subst h5
    go_enter Try.func42, Try.ntmps42
    go_wp2
    go_ret
    exact ⟨by simp [putI], (More.refl _).alloc _ _⟩
  by_cases h4 : op = 4
  · subst h4
    go_enter Try.func42, Try.ntmps42
    go_wp2
    go_ret
    exact ⟨by simp [putI], (More.refl _).alloc _ _⟩
  by_cases h6 : op = 6
  · subst h6
    go_enter Try.func42, Try.ntmps42
    go_wp2
    go_ret
    exact ⟨by simp [putI], (More.refl _).alloc _ _⟩
  obtain ⟨P, hP⟩ : ∃ P, putI ⟨op, a, b, c, n⟩ = P := ⟨_, rfl⟩
  have HP : Hid (P = -1) := (show P = -1 by rw [← hP]; unfold putI; dsimp only; rw [if_neg (by omega), if_neg (by omega)])
  rw [hP, HP.out]
  clear hP HP
  go_enter Try.func42, Try.ntmps42
  go_wp2
  go_ret
  exact ⟨rfl, (More.refl _).alloc _ _⟩

theorem ref_index_k (op a b c n : Int) (sv : Value) (h : op = 5 ∨ op = 6) (w : World) :
    Calls Try.prog 67 #[sv, .agg #[.int .i64 op, .int .i64 a, .int .i64 b, .int .i64 c, .int .i64 n]] w fun e w' => e = .returned (.int .i64 n) ∧ More w w' := by
  rcases h with rfl | rfl
  all_goals
    go_enter Try.func67, Try.ntmps67
    go_wp2
    go_ret
    exact ⟨rfl, (More.refl _).alloc _ _⟩

set_option maxHeartbeats 400000 in
theorem ref_index_r (op a b c n : Int) (g : Nat) {gc : Nat} (x : Int) (h5 : ¬ op = 5) (h6 : ¬ op = 6) (hb : 0 ≤ b) (hb' : b < 10) (w : World) (hx : w.cell? ⟨g, b.toNat, none⟩ = some (.int .i64 x)) :
    Calls Try.prog 67 #[.slice (some ⟨g, 0, none⟩) 10 gc, .agg #[.int .i64 op, .int .i64 a, .int .i64 b, .int .i64 c, .int .i64 n]] w fun e w' => e = .returned (.int .i64 (wrap64 (x + n))) ∧ More w w' := by
  obtain ⟨W, HW⟩ : ∃ W : World, Hid (W = w.alloc (.cells #[.int .i64 op, .int .i64 a, .int .i64 b, .int .i64 c, .int .i64 n] 75)) := ⟨_, rfl⟩
  have Hw : Hid (More w W) := HW.out ▸ (More.refl _).alloc _ _
  obtain ⟨S, HS⟩ : ∃ S : World → Prop, Hid (∀ w', S w' ↔ More W w') := ⟨fun w' => More W w', fun _ => Iff.rfl⟩
  have k0 : ∀ i : { w' // S w' }, i.val.cell? ⟨g, b.toNat, none⟩ = some (.int .i64 x) := fun i => ((HS.out _).1 i.property).cell (Hw.out.cell hx)
  have k2 : ∀ i : { w' // S w' }, i.val.cell? ⟨w.heap.size, 2, none⟩ = some (.int .i64 b) := fun i => ((HS.out _).1 i.property).cell (by rw [HW.out]; go_simp)
  have k4 : ∀ i : { w' // S w' }, i.val.cell? ⟨w.heap.size, 4, none⟩ = some (.int .i64 n) := fun i => ((HS.out _).1 i.property).cell (by rw [HW.out]; go_simp)
  have hne : Nonempty { w' // S w' } := ⟨⟨W, (HS.out _).2 (More.refl _)⟩⟩
  have hwr := wrapEq
  have t5 : (op == 5) = false := by simp [h5]
  have t6 : (op == 6) = false := by simp [h6]
  clear hx h5 h6
  go_enter Try.func67, Try.ntmps67
  go_wp2_with (fail)
  refine wp_region_ord (S := S) [(0, true), (1, true), (2, true), (3, true), (4, true), (5, true), (6, true), (7, true), (8, true)] (by kernel_rfl) (by kernel_rfl) (by kernel_rfl) ((HS.out _).2 (by rw [HW.out]; exact (More.refl _).drew)) ?_
  iterate 9 (refine wpOrd_take rfl (by kernel_rfl) (fun K hK => ?_); go_simp; refine hK _ _ ?_; clear hK K)
  refine wpOrd_done ?_
  clear k0 k2 k4 hne
  go_wp2
  go_ret
  exact ⟨rfl, ((More.refl _).alloc _ _).drew⟩

set_option maxHeartbeats 400000 in
theorem ref_base (ra : Option Addr) (rl rc : Nat) (ca : Option Addr) (cl cc : Nat) (c : Int) (rb ro : Nat) (log : Nat → Int) (sec : Nat → Bool) (w : World) (h0 : 0 ≤ c) (h1 : c < (rl : Int))
    (hra : 0 < rl → ra = some ⟨rb, ro, none⟩) (hr : RegsAt w rb ro rl log sec) (hok : RegionsOk rl log) :
    Calls Try.prog 21 #[.agg #[.slice ra rl rc, .slice ca cl cc], .int .i64 c] w fun e w' => e = .returned (.int .i64 (baseI log c.toNat)) ∧ More w w' := by
  obtain ⟨k0, rfl⟩ : ∃ k : Nat, c = k := ⟨c.toNat, by omega⟩
  have Hr : Hid (RegsAt w rb ro rl log sec ∧ RegionsOk rl log) := ⟨hr, hok⟩
  obtain rfl := hra (by omega)
  have hk0 : k0 < rl := by omega
  have h6 : rl ≤ 6 := hok.1
  obtain ⟨R, HR⟩ : ∃ R, Hid (baseI log k0 = R) := ⟨_, rfl⟩
  rw [show ((k0 : Int)).toNat = k0 by omega, HR.out]
  clear hra hr hok h0 h1
  go_enter Try.func21, Try.ntmps21
  go_wp2
  go_loopg [5, 6] k0 (fun g nv i wr => ∃ (k : Nat) (m : Int), k + g = k0 ∧ m = baseI log k ∧ (0 ≤ m ∧ m ≤ 64 * k) ∧ nv = .int .i64 m ∧ i = .int .i64 k ∧ More (w.alloc (.cells #[.slice (some ⟨rb, ro, none⟩) rl rc, .slice ca cl cc] 25)) wr)
  case atStart => exact ⟨0, 0, by omega, rfl, by omega, rfl, rfl, More.refl _⟩
  case round =>
    obtain ⟨k, m, hkg, hm, ⟨b0, b1⟩, rfl, rfl, mm⟩ := hrel
    have e0 : wr.cell? ⟨w.heap.size, 0, none⟩ = some (.slice (some ⟨rb, ro, none⟩) rl rc) := mm.cell (by go_simp)
    have e1 : wr.cell? ⟨w.heap.size, 1, none⟩ = some (.slice ca cl cc) := mm.cell (by go_simp)
    have Hm : Hid (m = baseI log k ∧ More (w.alloc (.cells #[.slice (some ⟨rb, ro, none⟩) rl rc, .slice ca cl cc] 25)) wr) := ⟨hm, mm⟩
    clear hm mm
    cases gk with
    | zero =>
      obtain rfl : k = k0 := by omega
      go_wp2
      go_ret
      exact ⟨congrArg (fun n => Ending.returned (.int .i64 n)) (Hm.out.1.trans HR.out), ((More.refl _).alloc _ _).trans Hm.out.2⟩
    | succ g =>
      have hk : k < rl := by omega
      have hk' : (k : Int) < (k0 : Int) := by omega
      have hkr : (k : Int) < (rl : Int) := by omega
      have hk1 : (0 : Int) ≤ (k : Int) := by omega
      have mw : More w wr := ((More.refl _).alloc _ _).trans Hm.out.2
      have q0 := ((Hr.out.1.more mw) k hk).1
      have q1 := ((Hr.out.1.more mw) k hk).2
      clear mw
      have Hlog : Hid (0 ≤ log k ∧ log k ≤ 6) := Hr.out.2.2 k hk
      obtain ⟨lk, hlk⟩ : ∃ x, log k = x := ⟨_, rfl⟩
      rw [hlk] at q0 Hlog
      have Hlk : Hid (log k = lk) := hlk
      clear hlk
      go_wp2_with (fail)
      obtain ⟨nw, hnw⟩ : ∃ x, wordsI lk = x := ⟨_, rfl⟩
      refine (ref_words lk Hlog.out.1 Hlog.out.2 (sec k) _).mono ?_
      rw [hnw]
      have hnb : 1 ≤ nw ∧ nw ≤ 64 := by
        rw [← hnw]
        exact two_pow_le (k := lk.toNat) (by have := Hlog.out; omega)
      have Hnw : Hid (wordsI (log k) = nw) := by rw [Hlk.out]; exact hnw
      clear hnw q0 q1
      rintro e w2 ⟨rfl, m2⟩
      have Hm2 : Hid (More (w.alloc (.cells #[.slice (some ⟨rb, ro, none⟩) rl rc, .slice ca cl cc] 25)) w2) := Hm.out.2.trans m2
      clear m2 e0 e1
      go_wp2
      go_roundg g
      case measure => omega
      case rel =>
        refine ⟨k + 1, m + nw, by omega, by rw [baseI, ← Hm.out.1, Hnw.out], by push_cast; omega, ?_, by first | rfl | simp, Hm2.out⟩
        first | rfl | (simp; unfold wrap64; omega)

set_option maxHeartbeats 400000 in
theorem reg_1 (a b c n : Int) (g : Nat) {gc : Nat} (r : Nat → Int) (w : World) (hr : RegsR w g r) (a0 : 0 ≤ a) (a1 : a < 10) :
    Calls Try.prog 47 #[.slice (some ⟨g, 0, none⟩) 10 gc, .agg #[.int .i64 1, .int .i64 a, .int .i64 b, .int .i64 c, .int .i64 n]] w fun e w' => e = .returned (.slice none 0 0) ∧ RegsR w' g (setR r a n) ∧ w.grownBy w' (some g) := by
  have Hr : Hid (RegsR w g r) := hr
  have hrW : RegsR (w.alloc (.cells #[.int .i64 1, .int .i64 a, .int .i64 b, .int .i64 c, .int .i64 n] 75)) g r := hr.alloc _ _
  have hg : g < w.heap.size := cell_block (hr 0 (by omega)).1
  have ca := (hr a.toNat (by omega)).1
  have fa := (hr a.toNat (by omega)).2
  clear hr hrW
  go_enter Try.func47, Try.ntmps47
  go_wp2
  go_ret
  exact ⟨rfl, (by repeat (first | exact Hr.out | apply RegsR.drew | apply RegsR.alloc | apply RegsR.set)), (by repeat (first | exact grown_refl _ _ | apply gr_drew | apply gr_alloc | apply gr_set))⟩

set_option maxHeartbeats 400000 in
theorem reg_12 (a b c n : Int) (g : Nat) {gc : Nat} (r : Nat → Int) (w : World) (hr : RegsR w g r) :
    Calls Try.prog 47 #[.slice (some ⟨g, 0, none⟩) 10 gc, .agg #[.int .i64 12, .int .i64 a, .int .i64 b, .int .i64 c, .int .i64 n]] w fun e w' => e = .returned (.slice none 0 0) ∧ RegsR w' g (r) ∧ w.grownBy w' (some g) := by
  have Hr : Hid (RegsR w g r) := hr
  have hrW : RegsR (w.alloc (.cells #[.int .i64 12, .int .i64 a, .int .i64 b, .int .i64 c, .int .i64 n] 75)) g r := hr.alloc _ _
  have hg : g < w.heap.size := cell_block (hr 0 (by omega)).1
  clear hr hrW
  go_enter Try.func47, Try.ntmps47
  go_wp2
  go_ret
  exact ⟨rfl, (by repeat (first | exact Hr.out | apply RegsR.drew | apply RegsR.alloc | apply RegsR.set)), (by repeat (first | exact grown_refl _ _ | apply gr_drew | apply gr_alloc | apply gr_set))⟩

set_option maxHeartbeats 400000 in
theorem reg_2 (a b c n : Int) (g : Nat) {gc : Nat} (r : Nat → Int) (w : World) (hr : RegsR w g r) (a0 : 0 ≤ a) (a1 : a < 10) (b0 : 0 ≤ b) (b1 : b < 10) :
    Calls Try.prog 47 #[.slice (some ⟨g, 0, none⟩) 10 gc, .agg #[.int .i64 2, .int .i64 a, .int .i64 b, .int .i64 c, .int .i64 n]] w fun e w' => e = .returned (.slice none 0 0) ∧ RegsR w' g (setR r a (r b.toNat)) ∧ w.grownBy w' (some g) := by
  have Hr : Hid (RegsR w g r) := hr
  have hrW : RegsR (w.alloc (.cells #[.int .i64 2, .int .i64 a, .int .i64 b, .int .i64 c, .int .i64 n] 75)) g r := hr.alloc _ _
  have hg : g < w.heap.size := cell_block (hr 0 (by omega)).1
  have ca := (hr a.toNat (by omega)).1
  have fa := (hr a.toNat (by omega)).2
  have cb := (hr b.toNat (by omega)).1
  have fb := (hr b.toNat (by omega)).2
  obtain ⟨S, HS⟩ : ∃ S : World → Prop, Hid (∀ w', S w' ↔ w'.cell? ⟨w.heap.size, 1, none⟩ = some (.int .i64 a) ∧ w'.cell? ⟨w.heap.size, 2, none⟩ = some (.int .i64 b)) := ⟨_, fun _ => Iff.rfl⟩
  have k1 : ∀ i : { w' // S w' }, i.val.cell? ⟨w.heap.size, 1, none⟩ = some (.int .i64 a) := fun i => ((HS.out _).1 i.property).1
  have k2 : ∀ i : { w' // S w' }, i.val.cell? ⟨w.heap.size, 2, none⟩ = some (.int .i64 b) := fun i => ((HS.out _).1 i.property).2
  have hne : Nonempty { w' // S w' } := ⟨⟨w.alloc (.cells #[.int .i64 2, .int .i64 a, .int .i64 b, .int .i64 c, .int .i64 n] 75), (HS.out _).2 (by go_simp)⟩⟩
  clear hr hrW
  go_enter Try.func47, Try.ntmps47
  go_wp2_with (fail)
  refine wp_region_ord (S := S) [(0, true), (1, true), (2, true), (3, true), (4, true), (5, true), (6, true), (7, false), (8, true), (9, false)] (by kernel_rfl) (by kernel_rfl) (by kernel_rfl) ((HS.out _).2 (by go_simp)) ?_
  iterate 7 (refine wpOrd_take rfl (by kernel_rfl) (fun K hK => ?_); go_simp; refine hK _ _ ?_; clear hK K)
  refine wpOrd_busy rfl (by kernel_rfl) (fun K hK => ?_); go_simp
  refine hK _ _ ((HS.out _).2 (by go_simp)) ?_; clear hK K
  refine wpOrd_take rfl (by kernel_rfl) (fun K hK => ?_); go_simp; refine hK _ _ ?_; clear hK K
  refine wpOrd_busy rfl (by kernel_rfl) (fun K hK => ?_); go_simp
  refine hK _ _ ((HS.out _).2 (by go_simp)) ?_; clear hK K
  refine wpOrd_done ?_
  clear k1 k2 hne
  go_wp2
  go_ret
  exact ⟨rfl, (by repeat (first | exact Hr.out | apply RegsR.drew | apply RegsR.alloc | apply RegsR.set)), (by repeat (first | exact grown_refl _ _ | apply gr_drew | apply gr_alloc | apply gr_set))⟩

set_option maxHeartbeats 400000 in
theorem reg_10 (a b c n : Int) (g : Nat) {gc : Nat} (r : Nat → Int) (w : World) (hr : RegsR w g r) (a0 : 0 ≤ a) (a1 : a < 10) (b0 : 0 ≤ b) (b1 : b < 10) :
    Calls Try.prog 47 #[.slice (some ⟨g, 0, none⟩) 10 gc, .agg #[.int .i64 10, .int .i64 a, .int .i64 b, .int .i64 c, .int .i64 n]] w fun e w' => e = .returned (.slice none 0 0) ∧ RegsR w' g (setR r a (wrap64 (r b.toNat + n))) ∧ w.grownBy w' (some g) := by
  have Hr : Hid (RegsR w g r) := hr
  have hrW : RegsR (w.alloc (.cells #[.int .i64 10, .int .i64 a, .int .i64 b, .int .i64 c, .int .i64 n] 75)) g r := hr.alloc _ _
  have hg : g < w.heap.size := cell_block (hr 0 (by omega)).1
  have ca := (hr a.toNat (by omega)).1
  have fa := (hr a.toNat (by omega)).2
  have cb := (hr b.toNat (by omega)).1
  have fb := (hr b.toNat (by omega)).2
  obtain ⟨S, HS⟩ : ∃ S : World → Prop, Hid (∀ w', S w' ↔ w'.cell? ⟨w.heap.size, 1, none⟩ = some (.int .i64 a) ∧ w'.cell? ⟨w.heap.size, 2, none⟩ = some (.int .i64 b) ∧ w'.cell? ⟨w.heap.size, 4, none⟩ = some (.int .i64 n)) := ⟨_, fun _ => Iff.rfl⟩
  have k1 : ∀ i : { w' // S w' }, i.val.cell? ⟨w.heap.size, 1, none⟩ = some (.int .i64 a) := fun i => ((HS.out _).1 i.property).1
  have k2 : ∀ i : { w' // S w' }, i.val.cell? ⟨w.heap.size, 2, none⟩ = some (.int .i64 b) := fun i => ((HS.out _).1 i.property).2.1
  have k4 : ∀ i : { w' // S w' }, i.val.cell? ⟨w.heap.size, 4, none⟩ = some (.int .i64 n) := fun i => ((HS.out _).1 i.property).2.2
  have hne : Nonempty { w' // S w' } := ⟨⟨w.alloc (.cells #[.int .i64 10, .int .i64 a, .int .i64 b, .int .i64 c, .int .i64 n] 75), (HS.out _).2 (by go_simp)⟩⟩
  have hwr := wrapEq
  clear hr hrW
  go_enter Try.func47, Try.ntmps47
  go_wp2_with (fail)
  refine wp_region_ord (S := S) [(0, true), (1, true), (2, true), (3, true), (4, true), (5, true), (6, true), (8, true), (9, true), (7, false), (10, true), (11, true), (12, false)] (by kernel_rfl) (by kernel_rfl) (by kernel_rfl) ((HS.out _).2 (by go_simp)) ?_
  iterate 9 (refine wpOrd_take rfl (by kernel_rfl) (fun K hK => ?_); go_simp; refine hK _ _ ?_; clear hK K)
  refine wpOrd_busy rfl (by kernel_rfl) (fun K hK => ?_); go_simp
  refine hK _ _ ((HS.out _).2 (by go_simp)) ?_; clear hK K
  iterate 2 (refine wpOrd_take rfl (by kernel_rfl) (fun K hK => ?_); go_simp; refine hK _ _ ?_; clear hK K)
  refine wpOrd_busy rfl (by kernel_rfl) (fun K hK => ?_); go_simp
  refine hK _ _ ((HS.out _).2 (by go_simp)) ?_; clear hK K
  refine wpOrd_done ?_
  clear k1 k2 k4 hne
  go_wp2
  go_ret
  exact ⟨rfl, (by repeat (first | exact Hr.out | apply RegsR.drew | apply RegsR.alloc | apply RegsR.set)), (by repeat (first | exact grown_refl _ _ | apply gr_drew | apply gr_alloc | apply gr_set))⟩

set_option maxHeartbeats 1000000 in
theorem reg_11_lo (a b c n : Int) (g : Nat) {gc : Nat} (r : Nat → Int) (x : Int) (w : World) (hr : RegsR w g r) (hx : r a.toNat = x) (a0 : 0 ≤ a) (a1 : a < 10) (hlo : x < 0) :
    Calls Try.prog 47 #[.slice (some ⟨g, 0, none⟩) 10 gc, .agg #[.int .i64 11, .int .i64 a, .int .i64 b, .int .i64 c, .int .i64 n]] w fun e w' => e = .returned (.slice none 0 0) ∧ RegsR w' g (setR r a 0) ∧ w.grownBy w' (some g) := by
  have Hr : Hid (RegsR w g r) := hr
  have hrW : RegsR (w.alloc (.cells #[.int .i64 11, .int .i64 a, .int .i64 b, .int .i64 c, .int .i64 n] 75)) g r := hr.alloc _ _
  have hg : g < w.heap.size := cell_block (hr 0 (by omega)).1
  have ca := (hr a.toNat (by omega)).1
  have fa := (hr a.toNat (by omega)).2
  rw [hx] at ca
  obtain ⟨S, HS⟩ : ∃ S : World → Prop, Hid (∀ w', S w' ↔ w'.cell? ⟨w.heap.size, 1, none⟩ = some (.int .i64 a) ∧ w'.cell? ⟨w.heap.size, 4, none⟩ = some (.int .i64 n) ∧ w'.cell? ⟨g, a.toNat, none⟩ = some (.int .i64 x)) := ⟨_, fun _ => Iff.rfl⟩
  have k1 : ∀ i : { w' // S w' }, i.val.cell? ⟨w.heap.size, 1, none⟩ = some (.int .i64 a) := fun i => ((HS.out _).1 i.property).1
  have k4 : ∀ i : { w' // S w' }, i.val.cell? ⟨w.heap.size, 4, none⟩ = some (.int .i64 n) := fun i => ((HS.out _).1 i.property).2.1
  have kx : ∀ i : { w' // S w' }, i.val.cell? ⟨g, a.toNat, none⟩ = some (.int .i64 x) := fun i => ((HS.out _).1 i.property).2.2
  have hne : Nonempty { w' // S w' } := ⟨⟨w.alloc (.cells #[.int .i64 11, .int .i64 a, .int .i64 b, .int .i64 c, .int .i64 n] 75), (HS.out _).2 (by go_simp)⟩⟩
  clear hr hrW hx
  go_enter Try.func47, Try.ntmps47
  go_wp2_with (fail)
  refine wp_region_ord (S := S) [(0, true), (1, true), (2, true), (3, true), (4, true), (5, true), (6, true), (7, true), (8, true), (9, true), (10, true), (11, true), (12, true), (13, true), (14, true), (15, true)] (by kernel_rfl) (by kernel_rfl) (by kernel_rfl) ((HS.out _).2 (by go_simp)) ?_
  iterate 6 (refine wpOrd_take rfl (by kernel_rfl) (fun K hK => ?_); go_simp; refine hK _ _ ?_; clear hK K)
  refine wpOrd_move rfl rfl (by kernel_rfl) (fun K hK => ?_); go_simp; refine hK _ _ ?_; clear hK K
  iterate 8 (refine wpOrd_skip rfl ((HS.out _).2 (by go_simp)) (by kernel_rfl) (by kernel_rfl) ?_)
  refine wpOrd_pickT rfl rfl (by kernel_rfl) rfl (fun K hK => ?_); go_simp; refine hK _ _ ?_; clear hK K
  refine wpOrd_done ?_
  clear k1 k4 kx hne
  go_wp2
  go_ret
  exact ⟨rfl, (by repeat (first | exact Hr.out | apply RegsR.drew | apply RegsR.alloc | apply RegsR.set)), (by repeat (first | exact grown_refl _ _ | apply gr_drew | apply gr_alloc | apply gr_set))⟩

set_option maxHeartbeats 1000000 in
theorem reg_11_hi (a b c n : Int) (g : Nat) {gc : Nat} (r : Nat → Int) (x : Int) (w : World) (hr : RegsR w g r) (hx : r a.toNat = x) (a0 : 0 ≤ a) (a1 : a < 10) (hlo : ¬ x < 0) (hhi : n ≤ x) :
    Calls Try.prog 47 #[.slice (some ⟨g, 0, none⟩) 10 gc, .agg #[.int .i64 11, .int .i64 a, .int .i64 b, .int .i64 c, .int .i64 n]] w fun e w' => e = .returned (.slice none 0 0) ∧ RegsR w' g (setR r a 0) ∧ w.grownBy w' (some g) := by
  have Hr : Hid (RegsR w g r) := hr
  have hrW : RegsR (w.alloc (.cells #[.int .i64 11, .int .i64 a, .int .i64 b, .int .i64 c, .int .i64 n] 75)) g r := hr.alloc _ _
  have hg : g < w.heap.size := cell_block (hr 0 (by omega)).1
  have ca := (hr a.toNat (by omega)).1
  have fa := (hr a.toNat (by omega)).2
  rw [hx] at ca
  obtain ⟨S, HS⟩ : ∃ S : World → Prop, Hid (∀ w', S w' ↔ w'.cell? ⟨w.heap.size, 1, none⟩ = some (.int .i64 a) ∧ w'.cell? ⟨w.heap.size, 4, none⟩ = some (.int .i64 n) ∧ w'.cell? ⟨g, a.toNat, none⟩ = some (.int .i64 x)) := ⟨_, fun _ => Iff.rfl⟩
  have k1 : ∀ i : { w' // S w' }, i.val.cell? ⟨w.heap.size, 1, none⟩ = some (.int .i64 a) := fun i => ((HS.out _).1 i.property).1
  have k4 : ∀ i : { w' // S w' }, i.val.cell? ⟨w.heap.size, 4, none⟩ = some (.int .i64 n) := fun i => ((HS.out _).1 i.property).2.1
  have kx : ∀ i : { w' // S w' }, i.val.cell? ⟨g, a.toNat, none⟩ = some (.int .i64 x) := fun i => ((HS.out _).1 i.property).2.2
  have hne : Nonempty { w' // S w' } := ⟨⟨w.alloc (.cells #[.int .i64 11, .int .i64 a, .int .i64 b, .int .i64 c, .int .i64 n] 75), (HS.out _).2 (by go_simp)⟩⟩
  clear hr hrW hx
  go_enter Try.func47, Try.ntmps47
  go_wp2_with (fail)
  refine wp_region_ord (S := S) [(0, true), (1, true), (2, true), (3, true), (4, true), (5, true), (6, true), (7, true), (8, true), (9, true), (10, true), (11, true), (12, true), (13, true), (14, true), (15, true)] (by kernel_rfl) (by kernel_rfl) (by kernel_rfl) ((HS.out _).2 (by go_simp)) ?_
  have hd0 : decide (x < 0) = false := by simp; omega
  iterate 6 (refine wpOrd_take rfl (by kernel_rfl) (fun K hK => ?_); go_simp; refine hK _ _ ?_; clear hK K)
  refine wpOrd_move rfl rfl (by kernel_rfl) (fun K hK => ?_); go_simp; refine hK _ _ ?_; clear hK K
  iterate 8 (refine wpOrd_take rfl (by kernel_rfl) (fun K hK => ?_); go_simp; refine hK _ _ ?_; clear hK K)
  refine wpOrd_pickF rfl rfl (by kernel_rfl) rfl (fun K hK => ?_); go_simp; refine hK _ _ ?_; clear hK K
  refine wpOrd_done ?_
  clear k1 k4 kx hne
  go_wp2
  go_ret
  exact ⟨rfl, (by repeat (first | exact Hr.out | apply RegsR.drew | apply RegsR.alloc | apply RegsR.set)), (by repeat (first | exact grown_refl _ _ | apply gr_drew | apply gr_alloc | apply gr_set))⟩

set_option maxHeartbeats 1000000 in
theorem reg_11_in (a b c n : Int) (g : Nat) {gc : Nat} (r : Nat → Int) (x : Int) (w : World) (hr : RegsR w g r) (hx : r a.toNat = x) (a0 : 0 ≤ a) (a1 : a < 10) (hlo : ¬ x < 0) (hhi : x < n) :
    Calls Try.prog 47 #[.slice (some ⟨g, 0, none⟩) 10 gc, .agg #[.int .i64 11, .int .i64 a, .int .i64 b, .int .i64 c, .int .i64 n]] w fun e w' => e = .returned (.slice none 0 0) ∧ RegsR w' g (r) ∧ w.grownBy w' (some g) := by
  have Hr : Hid (RegsR w g r) := hr
  have hrW : RegsR (w.alloc (.cells #[.int .i64 11, .int .i64 a, .int .i64 b, .int .i64 c, .int .i64 n] 75)) g r := hr.alloc _ _
  have hg : g < w.heap.size := cell_block (hr 0 (by omega)).1
  have ca := (hr a.toNat (by omega)).1
  have fa := (hr a.toNat (by omega)).2
  rw [hx] at ca
  obtain ⟨S, HS⟩ : ∃ S : World → Prop, Hid (∀ w', S w' ↔ w'.cell? ⟨w.heap.size, 1, none⟩ = some (.int .i64 a) ∧ w'.cell? ⟨w.heap.size, 4, none⟩ = some (.int .i64 n) ∧ w'.cell? ⟨g, a.toNat, none⟩ = some (.int .i64 x)) := ⟨_, fun _ => Iff.rfl⟩
  have k1 : ∀ i : { w' // S w' }, i.val.cell? ⟨w.heap.size, 1, none⟩ = some (.int .i64 a) := fun i => ((HS.out _).1 i.property).1
  have k4 : ∀ i : { w' // S w' }, i.val.cell? ⟨w.heap.size, 4, none⟩ = some (.int .i64 n) := fun i => ((HS.out _).1 i.property).2.1
  have kx : ∀ i : { w' // S w' }, i.val.cell? ⟨g, a.toNat, none⟩ = some (.int .i64 x) := fun i => ((HS.out _).1 i.property).2.2
  have hne : Nonempty { w' // S w' } := ⟨⟨w.alloc (.cells #[.int .i64 11, .int .i64 a, .int .i64 b, .int .i64 c, .int .i64 n] 75), (HS.out _).2 (by go_simp)⟩⟩
  clear hr hrW hx
  go_enter Try.func47, Try.ntmps47
  go_wp2_with (fail)
  refine wp_region_ord (S := S) [(0, true), (1, true), (2, true), (3, true), (4, true), (5, true), (6, true), (7, true), (8, true), (9, true), (10, true), (11, true), (12, true), (13, true), (14, true), (15, true)] (by kernel_rfl) (by kernel_rfl) (by kernel_rfl) ((HS.out _).2 (by go_simp)) ?_
  have hd0 : decide (x < 0) = false := by simp; omega
  iterate 6 (refine wpOrd_take rfl (by kernel_rfl) (fun K hK => ?_); go_simp; refine hK _ _ ?_; clear hK K)
  refine wpOrd_move rfl rfl (by kernel_rfl) (fun K hK => ?_); go_simp; refine hK _ _ ?_; clear hK K
  iterate 7 (refine wpOrd_take rfl (by kernel_rfl) (fun K hK => ?_); go_simp; refine hK _ _ ?_; clear hK K)
  have hd : decide (n ≤ x) = false := by simp; omega
  iterate 1 (refine wpOrd_take rfl (by kernel_rfl) (fun K hK => ?_); go_simp; refine hK _ _ ?_; clear hK K)
  refine wpOrd_pickF rfl rfl (by kernel_rfl) rfl (fun K hK => ?_); go_simp; refine hK _ _ ?_; clear hK K
  refine wpOrd_done ?_
  clear k1 k4 kx hne
  go_wp2
  go_ret
  exact ⟨rfl, (by repeat (first | exact Hr.out | apply RegsR.drew | apply RegsR.alloc | apply RegsR.set)), (by repeat (first | exact grown_refl _ _ | apply gr_drew | apply gr_alloc | apply gr_set))⟩

set_option maxHeartbeats 1000000 in
theorem reg_op_no (op a b c n : Int) (g : Nat) {gc : Nat} (r : Nat → Int) (w : World) (hr : RegsR w g r) (o0 : 21 ≤ op) (o1 : op ≤ 30) (a0 : 0 ≤ a) (a1 : a < 10) (b0 : 0 ≤ b) (b1 : b < 10) (c0 : 0 ≤ c) (c1 : c < 10) (h29 : ¬ op = 29) (h30 : ¬ op = 30) (hb : B64 (r b.toNat)) (hc : B64 (r c.toNat)) :
    Calls Try.prog 47 #[.slice (some ⟨g, 0, none⟩) 10 gc, .agg #[.int .i64 op, .int .i64 a, .int .i64 b, .int .i64 c, .int .i64 n]] w fun e w' => e = .returned (.slice none 0 0) ∧ RegsR w' g (setR r a (opI (op - 20) (r b.toNat) (r c.toNat))) ∧ w.grownBy w' (some g) := by
  have Hr : Hid (RegsR w g r) := hr
  have hrW : RegsR (w.alloc (.cells #[.int .i64 op, .int .i64 a, .int .i64 b, .int .i64 c, .int .i64 n] 75)) g r := hr.alloc _ _
  have hg : g < w.heap.size := cell_block (hr 0 (by omega)).1
  have ca := (hr a.toNat (by omega)).1
  have fa := (hr a.toNat (by omega)).2
  have cb := (hr b.toNat (by omega)).1
  have fb := (hr b.toNat (by omega)).2
  have cx := (hr c.toNat (by omega)).1
  have fx := (hr c.toNat (by omega)).2
  obtain ⟨S, HS⟩ : ∃ S : World → Prop, Hid (∀ w', S w' ↔ w'.cell? ⟨w.heap.size, 0, none⟩ = some (.int .i64 op) ∧ w'.cell? ⟨w.heap.size, 1, none⟩ = some (.int .i64 a)) := ⟨_, fun _ => Iff.rfl⟩
  have k0 : ∀ i : { w' // S w' }, i.val.cell? ⟨w.heap.size, 0, none⟩ = some (.int .i64 op) := fun i => ((HS.out _).1 i.property).1
  have k1 : ∀ i : { w' // S w' }, i.val.cell? ⟨w.heap.size, 1, none⟩ = some (.int .i64 a) := fun i => ((HS.out _).1 i.property).2
  have hne : Nonempty { w' // S w' } := ⟨⟨w.alloc (.cells #[.int .i64 op, .int .i64 a, .int .i64 b, .int .i64 c, .int .i64 n] 75), (HS.out _).2 (by go_simp)⟩⟩
  have hwr := wrapEq
  have Hop : Hid (∀ w : World, Calls Try.prog 68 #[.int .i64 (op - 20), .int .i64 (r b.toNat), .int .i64 (r c.toNat)] w fun e w' => e = .returned (.int .i64 (opI (op - 20) (r b.toNat) (r c.toNat))) ∧ More w w') := fun w => ref_op _ _ _ hb.1 hb.2 hc.1 hc.2 w
  obtain ⟨v, hv⟩ : ∃ v, opI (op - 20) (r b.toNat) (r c.toNat) = v := ⟨_, rfl⟩
  rw [hv] at Hop
  rw [hv]
  have hs : wrap64 (op - 20) = op - 20 := by unfold wrap64; omega
  obtain ⟨q, hq⟩ : ∃ q, op - 20 = q := ⟨_, rfl⟩
  rw [hq] at Hop hs
  have t29 : (op == 29) = false := by simp [h29]
  have t30 : (op == 30) = false := by simp [h30]
  clear h29 h30
  clear hr hrW hb hc hv
  go_enter Try.func47, Try.ntmps47
  go_wp2_with (fail)
  refine wp_region_ord (S := S) [(0, true), (1, true), (2, true), (3, true), (4, true), (5, true), (6, true), (7, true), (8, false), (9, true), (10, false)] (by kernel_rfl) (by kernel_rfl) (by kernel_rfl) ((HS.out _).2 (by go_simp)) ?_
  iterate 8 (refine wpOrd_take rfl (by kernel_rfl) (fun K hK => ?_); go_simp; refine hK _ _ ?_; clear hK K)
  refine wpOrd_busy rfl (by kernel_rfl) (fun K hK => ?_); go_simp
  refine (Hop.out _).mono ?_
  rintro e w1 ⟨rfl, m1⟩
  have e0 : w1.cell? ⟨w.heap.size, 0, none⟩ = some (.int .i64 op) := m1.cell (by go_simp)
  have e1 : w1.cell? ⟨w.heap.size, 1, none⟩ = some (.int .i64 a) := m1.cell (by go_simp)
  have Hr1 : Hid (RegsR w1 g r) := ((Hr.out.alloc _ _).drew).more m1
  have c1a := (Hr1.out a.toNat (by omega)).1
  have f1a := (Hr1.out a.toNat (by omega)).2
  have Hg1 : Hid (w.grownBy w1 (some g)) := gr_more (gr_drew (gr_alloc (grown_refl _ _) _)) m1
  clear m1
  go_simp
  refine hK _ _ ((HS.out _).2 ⟨e0, e1⟩) ?_; clear hK K
  refine wpOrd_take rfl (by kernel_rfl) (fun K hK => ?_); go_simp; refine hK _ _ ?_; clear hK K
  refine wpOrd_busy rfl (by kernel_rfl) (fun K hK => ?_); go_simp
  have e0' : (w1.setCell ⟨g, a.toNat, none⟩ (.int .i64 v)).cell? ⟨w.heap.size, 0, none⟩ = some (.int .i64 op) := by rw [World.cell?_setCell_other _ _ _ _ (by simp <;> omega)]; exact e0
  have e1' : (w1.setCell ⟨g, a.toNat, none⟩ (.int .i64 v)).cell? ⟨w.heap.size, 1, none⟩ = some (.int .i64 a) := by rw [World.cell?_setCell_other _ _ _ _ (by simp <;> omega)]; exact e1
  refine hK _ _ ((HS.out _).2 ⟨e0', e1'⟩) ?_; clear hK K
  refine wpOrd_done ?_
  have Hr2 : Hid (RegsR (w1.setCell ⟨g, a.toNat, none⟩ (.int .i64 v)) g (setR r a v)) := Hr1.out.set a v
  have Hg2 : Hid (w.grownBy (w1.setCell ⟨g, a.toNat, none⟩ (.int .i64 v)) (some g)) := gr_set Hg1.out _ _
  obtain ⟨w3, hw3⟩ : ∃ w3, w1.setCell ⟨g, a.toNat, none⟩ (.int .i64 v) = w3 := ⟨_, rfl⟩
  rw [hw3] at e0' Hr2 Hg2 ⊢
  clear hw3 k0 k1 hne ca fa cb fb cx fx c1a f1a e0 e1 e1' hwr
  go_wp2
  go_ret
  exact ⟨rfl, Hr2.out, Hg2.out⟩

set_option maxHeartbeats 1000000 in
theorem reg_op_div (op a b c n : Int) (g : Nat) {gc : Nat} (r : Nat → Int) (w : World) (hr : RegsR w g r) (o0 : 21 ≤ op) (o1 : op ≤ 30) (a0 : 0 ≤ a) (a1 : a < 10) (b0 : 0 ≤ b) (b1 : b < 10) (c0 : 0 ≤ c) (c1 : c < 10) (h : op = 29) (hb : B64 (r b.toNat)) (hc : B64 (r c.toNat)) :
    Calls Try.prog 47 #[.slice (some ⟨g, 0, none⟩) 10 gc, .agg #[.int .i64 op, .int .i64 a, .int .i64 b, .int .i64 c, .int .i64 n]] w fun e w' => ∃ sv, e = .returned sv ∧ SeenAt w' sv ([⟨3, r b.toNat, r c.toNat⟩]) ∧ RegsR w' g (setR r a (opI (op - 20) (r b.toNat) (r c.toNat))) ∧ w.grownBy w' (some g) := by
  have Hr : Hid (RegsR w g r) := hr
  have hrW : RegsR (w.alloc (.cells #[.int .i64 op, .int .i64 a, .int .i64 b, .int .i64 c, .int .i64 n] 75)) g r := hr.alloc _ _
  have hg : g < w.heap.size := cell_block (hr 0 (by omega)).1
  have ca := (hr a.toNat (by omega)).1
  have fa := (hr a.toNat (by omega)).2
  have cb := (hr b.toNat (by omega)).1
  have fb := (hr b.toNat (by omega)).2
  have cx := (hr c.toNat (by omega)).1
  have fx := (hr c.toNat (by omega)).2
  obtain ⟨S, HS⟩ : ∃ S : World → Prop, Hid (∀ w', S w' ↔ w'.cell? ⟨w.heap.size, 0, none⟩ = some (.int .i64 op) ∧ w'.cell? ⟨w.heap.size, 1, none⟩ = some (.int .i64 a)) := ⟨_, fun _ => Iff.rfl⟩
  have k0 : ∀ i : { w' // S w' }, i.val.cell? ⟨w.heap.size, 0, none⟩ = some (.int .i64 op) := fun i => ((HS.out _).1 i.property).1
  have k1 : ∀ i : { w' // S w' }, i.val.cell? ⟨w.heap.size, 1, none⟩ = some (.int .i64 a) := fun i => ((HS.out _).1 i.property).2
  have hne : Nonempty { w' // S w' } := ⟨⟨w.alloc (.cells #[.int .i64 op, .int .i64 a, .int .i64 b, .int .i64 c, .int .i64 n] 75), (HS.out _).2 (by go_simp)⟩⟩
  have hwr := wrapEq
  have Hop : Hid (∀ w : World, Calls Try.prog 68 #[.int .i64 (op - 20), .int .i64 (r b.toNat), .int .i64 (r c.toNat)] w fun e w' => e = .returned (.int .i64 (opI (op - 20) (r b.toNat) (r c.toNat))) ∧ More w w') := fun w => ref_op _ _ _ hb.1 hb.2 hc.1 hc.2 w
  obtain ⟨v, hv⟩ : ∃ v, opI (op - 20) (r b.toNat) (r c.toNat) = v := ⟨_, rfl⟩
  rw [hv] at Hop
  rw [hv]
  have hs : wrap64 (op - 20) = op - 20 := by unfold wrap64; omega
  obtain ⟨q, hq⟩ : ∃ q, op - 20 = q := ⟨_, rfl⟩
  rw [hq] at Hop hs
  have Hh : Hid (op = 29) := h
  clear h
  clear hr hrW hb hc hv
  go_enter Try.func47, Try.ntmps47
  go_wp2_with (fail)
  refine wp_region_ord (S := S) [(0, true), (1, true), (2, true), (3, true), (4, true), (5, true), (6, true), (7, true), (8, false), (9, true), (10, false)] (by kernel_rfl) (by kernel_rfl) (by kernel_rfl) ((HS.out _).2 (by go_simp)) ?_
  iterate 8 (refine wpOrd_take rfl (by kernel_rfl) (fun K hK => ?_); go_simp; refine hK _ _ ?_; clear hK K)
  refine wpOrd_busy rfl (by kernel_rfl) (fun K hK => ?_); go_simp
  refine (Hop.out _).mono ?_
  rintro e w1 ⟨rfl, m1⟩
  have e0 : w1.cell? ⟨w.heap.size, 0, none⟩ = some (.int .i64 op) := m1.cell (by go_simp)
  have e1 : w1.cell? ⟨w.heap.size, 1, none⟩ = some (.int .i64 a) := m1.cell (by go_simp)
  have Hr1 : Hid (RegsR w1 g r) := ((Hr.out.alloc _ _).drew).more m1
  have c1a := (Hr1.out a.toNat (by omega)).1
  have f1a := (Hr1.out a.toNat (by omega)).2
  have Hg1 : Hid (w.grownBy w1 (some g)) := gr_more (gr_drew (gr_alloc (grown_refl _ _) _)) m1
  clear m1
  go_simp
  refine hK _ _ ((HS.out _).2 ⟨e0, e1⟩) ?_; clear hK K
  refine wpOrd_take rfl (by kernel_rfl) (fun K hK => ?_); go_simp; refine hK _ _ ?_; clear hK K
  refine wpOrd_busy rfl (by kernel_rfl) (fun K hK => ?_); go_simp
  have e0' : (w1.setCell ⟨g, a.toNat, none⟩ (.int .i64 v)).cell? ⟨w.heap.size, 0, none⟩ = some (.int .i64 op) := by rw [World.cell?_setCell_other _ _ _ _ (by simp <;> omega)]; exact e0
  have e1' : (w1.setCell ⟨g, a.toNat, none⟩ (.int .i64 v)).cell? ⟨w.heap.size, 1, none⟩ = some (.int .i64 a) := by rw [World.cell?_setCell_other _ _ _ _ (by simp <;> omega)]; exact e1
  refine hK _ _ ((HS.out _).2 ⟨e0', e1'⟩) ?_; clear hK K
  refine wpOrd_done ?_
  have Hr2 : Hid (RegsR (w1.setCell ⟨g, a.toNat, none⟩ (.int .i64 v)) g (setR r a v)) := Hr1.out.set a v
  have Hg2 : Hid (w.grownBy (w1.setCell ⟨g, a.toNat, none⟩ (.int .i64 v)) (some g)) := gr_set Hg1.out _ _
  obtain ⟨w3, hw3⟩ : ∃ w3, w1.setCell ⟨g, a.toNat, none⟩ (.int .i64 v) = w3 := ⟨_, rfl⟩
  rw [hw3] at e0' Hr2 Hg2 ⊢
  clear hw3 k0 k1 hne ca fa cb fb cx fx c1a f1a e0 e1 e1' hwr
  obtain rfl := Hh.out
  go_wp2
  go_ret
  refine ⟨_, rfl, ⟨some ⟨w3.heap.size, 0, none⟩, w3.heap.size, 0, 1, rfl, fun _ => rfl, fun i s h => ?_, by simp⟩, by repeat (first | exact Hr2.out | apply RegsR.drew | apply RegsR.alloc), by repeat (first | exact Hg2.out | apply gr_drew | apply gr_alloc)⟩
  have hi : i = 0 := by have := (List.getElem?_eq_some_iff.1 h).1; simp at this; omega
  subst hi
  simp at h
  subst h
  refine ⟨?_, ?_, ?_⟩ <;> go_simp

set_option maxHeartbeats 1000000 in
theorem reg_op_mod (op a b c n : Int) (g : Nat) {gc : Nat} (r : Nat → Int) (w : World) (hr : RegsR w g r) (o0 : 21 ≤ op) (o1 : op ≤ 30) (a0 : 0 ≤ a) (a1 : a < 10) (b0 : 0 ≤ b) (b1 : b < 10) (c0 : 0 ≤ c) (c1 : c < 10) (h : op = 30) (hb : B64 (r b.toNat)) (hc : B64 (r c.toNat)) :
    Calls Try.prog 47 #[.slice (some ⟨g, 0, none⟩) 10 gc, .agg #[.int .i64 op, .int .i64 a, .int .i64 b, .int .i64 c, .int .i64 n]] w fun e w' => ∃ sv, e = .returned sv ∧ SeenAt w' sv ([⟨3, r b.toNat, r c.toNat⟩]) ∧ RegsR w' g (setR r a (opI (op - 20) (r b.toNat) (r c.toNat))) ∧ w.grownBy w' (some g) := by
  have Hr : Hid (RegsR w g r) := hr
  have hrW : RegsR (w.alloc (.cells #[.int .i64 op, .int .i64 a, .int .i64 b, .int .i64 c, .int .i64 n] 75)) g r := hr.alloc _ _
  have hg : g < w.heap.size := cell_block (hr 0 (by omega)).1
  have ca := (hr a.toNat (by omega)).1
  have fa := (hr a.toNat (by omega)).2
  have cb := (hr b.toNat (by omega)).1
  have fb := (hr b.toNat (by omega)).2
  have cx := (hr c.toNat (by omega)).1
  have fx := (hr c.toNat (by omega)).2
  obtain ⟨S, HS⟩ : ∃ S : World → Prop, Hid (∀ w', S w' ↔ w'.cell? ⟨w.heap.size, 0, none⟩ = some (.int .i64 op) ∧ w'.cell? ⟨w.heap.size, 1, none⟩ = some (.int .i64 a)) := ⟨_, fun _ => Iff.rfl⟩
  have k0 : ∀ i : { w' // S w' }, i.val.cell? ⟨w.heap.size, 0, none⟩ = some (.int .i64 op) := fun i => ((HS.out _).1 i.property).1
  have k1 : ∀ i : { w' // S w' }, i.val.cell? ⟨w.heap.size, 1, none⟩ = some (.int .i64 a) := fun i => ((HS.out _).1 i.property).2
  have hne : Nonempty { w' // S w' } := ⟨⟨w.alloc (.cells #[.int .i64 op, .int .i64 a, .int .i64 b, .int .i64 c, .int .i64 n] 75), (HS.out _).2 (by go_simp)⟩⟩
  have hwr := wrapEq
  have Hop : Hid (∀ w : World, Calls Try.prog 68 #[.int .i64 (op - 20), .int .i64 (r b.toNat), .int .i64 (r c.toNat)] w fun e w' => e = .returned (.int .i64 (opI (op - 20) (r b.toNat) (r c.toNat))) ∧ More w w') := fun w => ref_op _ _ _ hb.1 hb.2 hc.1 hc.2 w
  obtain ⟨v, hv⟩ : ∃ v, opI (op - 20) (r b.toNat) (r c.toNat) = v := ⟨_, rfl⟩
  rw [hv] at Hop
  rw [hv]
  have hs : wrap64 (op - 20) = op - 20 := by unfold wrap64; omega
  obtain ⟨q, hq⟩ : ∃ q, op - 20 = q := ⟨_, rfl⟩
  rw [hq] at Hop hs
  have Hh : Hid (op = 30) := h
  clear h
  clear hr hrW hb hc hv
  go_enter Try.func47, Try.ntmps47
  go_wp2_with (fail)
  refine wp_region_ord (S := S) [(0, true), (1, true), (2, true), (3, true), (4, true), (5, true), (6, true), (7, true), (8, false), (9, true), (10, false)] (by kernel_rfl) (by kernel_rfl) (by kernel_rfl) ((HS.out _).2 (by go_simp)) ?_
  iterate 8 (refine wpOrd_take rfl (by kernel_rfl) (fun K hK => ?_); go_simp; refine hK _ _ ?_; clear hK K)
  refine wpOrd_busy rfl (by kernel_rfl) (fun K hK => ?_); go_simp
  refine (Hop.out _).mono ?_
  rintro e w1 ⟨rfl, m1⟩
  have e0 : w1.cell? ⟨w.heap.size, 0, none⟩ = some (.int .i64 op) := m1.cell (by go_simp)
  have e1 : w1.cell? ⟨w.heap.size, 1, none⟩ = some (.int .i64 a) := m1.cell (by go_simp)
  have Hr1 : Hid (RegsR w1 g r) := ((Hr.out.alloc _ _).drew).more m1
  have c1a := (Hr1.out a.toNat (by omega)).1
  have f1a := (Hr1.out a.toNat (by omega)).2
  have Hg1 : Hid (w.grownBy w1 (some g)) := gr_more (gr_drew (gr_alloc (grown_refl _ _) _)) m1
  clear m1
  go_simp
  refine hK _ _ ((HS.out _).2 ⟨e0, e1⟩) ?_; clear hK K
  refine wpOrd_take rfl (by kernel_rfl) (fun K hK => ?_); go_simp; refine hK _ _ ?_; clear hK K
  refine wpOrd_busy rfl (by kernel_rfl) (fun K hK => ?_); go_simp
  have e0' : (w1.setCell ⟨g, a.toNat, none⟩ (.int .i64 v)).cell? ⟨w.heap.size, 0, none⟩ = some (.int .i64 op) := by rw [World.cell?_setCell_other _ _ _ _ (by simp <;> omega)]; exact e0
  have e1' : (w1.setCell ⟨g, a.toNat, none⟩ (.int .i64 v)).cell? ⟨w.heap.size, 1, none⟩ = some (.int .i64 a) := by rw [World.cell?_setCell_other _ _ _ _ (by simp <;> omega)]; exact e1
  refine hK _ _ ((HS.out _).2 ⟨e0', e1'⟩) ?_; clear hK K
  refine wpOrd_done ?_
  have Hr2 : Hid (RegsR (w1.setCell ⟨g, a.toNat, none⟩ (.int .i64 v)) g (setR r a v)) := Hr1.out.set a v
  have Hg2 : Hid (w.grownBy (w1.setCell ⟨g, a.toNat, none⟩ (.int .i64 v)) (some g)) := gr_set Hg1.out _ _
  obtain ⟨w3, hw3⟩ : ∃ w3, w1.setCell ⟨g, a.toNat, none⟩ (.int .i64 v) = w3 := ⟨_, rfl⟩
  rw [hw3] at e0' Hr2 Hg2 ⊢
  clear hw3 k0 k1 hne ca fa cb fb cx fx c1a f1a e0 e1 e1' hwr
  obtain rfl := Hh.out
  go_wp2
  go_ret
  refine ⟨_, rfl, ⟨some ⟨w3.heap.size, 0, none⟩, w3.heap.size, 0, 1, rfl, fun _ => rfl, fun i s h => ?_, by simp⟩, by repeat (first | exact Hr2.out | apply RegsR.drew | apply RegsR.alloc), by repeat (first | exact Hg2.out | apply gr_drew | apply gr_alloc)⟩
  have hi : i = 0 := by have := (List.getElem?_eq_some_iff.1 h).1; simp at this; omega
  subst hi
  simp at h
  subst h
  refine ⟨?_, ?_, ?_⟩ <;> go_simp
/-- A field: not there (0), a register (1), or something else. -/
def Fld (regs l f : Int) : Prop := (l = 0 → f = 0) ∧ (l = 1 → Reg regs f)

/-- The boxes of the program and of the instruction, in a world that has grown since. -/
theorem boxes2 {w w1 : World} {x0 x1 y0 y1 y2 y3 y4 : Value} {t u : TypeId} (m : More ((w.alloc (.cells #[x0, x1] t)).alloc (.cells #[y0, y1, y2, y3, y4] u)) w1) :
    (w1.cell? ⟨w.heap.size, 0, none⟩ = some x0 ∧ w1.cell? ⟨w.heap.size, 1, none⟩ = some x1) ∧
    w1.cell? ⟨w.heap.size + 1, 0, none⟩ = some y0 ∧ w1.cell? ⟨w.heap.size + 1, 1, none⟩ = some y1 ∧ w1.cell? ⟨w.heap.size + 1, 2, none⟩ = some y2 ∧ w1.cell? ⟨w.heap.size + 1, 3, none⟩ = some y3 ∧ w1.cell? ⟨w.heap.size + 1, 4, none⟩ = some y4 := by
  refine ⟨⟨m.cell (by go_simp), m.cell (by go_simp)⟩, m.cell (by go_simp), m.cell (by go_simp), m.cell (by go_simp), m.cell (by go_simp), m.cell (by go_simp)⟩
set_option maxRecDepth 8000 in
set_option maxHeartbeats 1000000 in
theorem ins_1 (ra : Option Addr) (rl rc : Nat) (ca : Option Addr) (cl cc : Nat) (a b c n regs : Int) (w : World) (P : Prop) (HP : Hid (P ↔ (True ∧ (∀ j, j < 3 → Fld regs (tri 1 0 0 j) (tri a b c j)) ∧ True))) :
    Calls Try.prog 73 #[.agg #[.slice ra rl rc, .slice ca cl cc], .agg #[.int .i64 1, .int .i64 a, .int .i64 b, .int .i64 c, .int .i64 n], .int .i64 regs] w (Says P w) := by
  go_enter Try.func73, Try.ntmps73
  go_wp2_with (fail)
  refine (shape_1 _).mono ?_
  rintro e w1 ⟨g, rfl, hg, m1⟩
  obtain ⟨⟨c0, c1⟩, d0, d1, d2, d3, d4⟩ := boxes2 m1
  have Hg : Hid (∀ j, j < 3 → w1.cell? ⟨g, j, none⟩ = some (.int .i64 (tri 1 0 0 j))) := hg
  have Hm1 : Hid (More w w1) := (((More.refl _).alloc _ _).alloc _ _).trans m1
  clear hg m1
  have HN : Hid True := trivial
  go_wp2
  obtain ⟨W, HW⟩ : ∃ W : World, Hid (W = w1.alloc (.cells #[.int .i64 a, .int .i64 b, .int .i64 c] 3)) := ⟨_, rfl⟩
  have Hm1W : Hid (More w1 W) := HW.out ▸ (More.refl _).alloc _ _
  have Hm : Hid (More w W) := Hm1.out.trans Hm1W.out
  have Hf : Hid (∀ j, j < 3 → W.cell? ⟨w1.heap.size, j, none⟩ = some (.int .i64 (tri a b c j))) := by rw [HW.out]; exact tri_cells (by go_simp) (by go_simp) (by go_simp)
  have Hg' : Hid (∀ j, j < 3 → W.cell? ⟨g, j, none⟩ = some (.int .i64 (tri 1 0 0 j))) := fun j hj => Hm1W.out.cell (Hg.out j hj)
  clear Hg
  replace c0 := Hm1W.out.cell c0
  replace c1 := Hm1W.out.cell c1
  replace d0 := Hm1W.out.cell d0
  replace d1 := Hm1W.out.cell d1
  replace d2 := Hm1W.out.cell d2
  replace d3 := Hm1W.out.cell d3
  replace d4 := Hm1W.out.cell d4
  go_loopg [11] 3 (fun q i wr => ∃ k : Nat, k + q = 3 ∧ i = .int .i64 k ∧ (∀ j, j < k → Fld regs (tri 1 0 0 j) (tri a b c j)) ∧ wr = W)
  case atStart => exact ⟨0, by omega, rfl, fun j hj => by omega, HW.out.symm⟩
  case round =>
    obtain ⟨k, hkg, rfl, hok, rfl⟩ := hrel
    have Hok : Hid (∀ j, j < k → Fld regs (tri 1 0 0 j) (tri a b c j)) := hok
    clear hok
    cases gk with
    | zero =>
      obtain rfl : k = 3 := by omega
      go_wp2
      go_ret
      exact Says.yes (HP.out.2 ⟨HN.out, Hok.out, trivial⟩) Hm.out
    | succ q =>
      clear d0 d1 d2 d3 d4 c0 c1
      have hk : k < 3 := by omega
      have hk' : (k : Int) < 3 := by omega
      have hk0 : (0 : Int) ≤ (k : Int) := by omega
      have qg := Hg'.out k hk
      have qf := Hf.out k hk
      obtain ⟨x, hx⟩ : ∃ x, tri 1 0 0 k = x := ⟨_, rfl⟩
      obtain ⟨y, hy⟩ : ∃ y, tri a b c k = y := ⟨_, rfl⟩
      rw [hx] at qg
      rw [hy] at qf
      have HX : Hid (tri 1 0 0 k = x ∧ tri a b c k = y) := ⟨hx, hy⟩
      clear hx hy
      have step : Hid (Fld regs x y → ∀ j, j < k + 1 → Fld regs (tri 1 0 0 j) (tri a b c j)) := by
        intro h j hj
        by_cases e : j = k
        · subst e; rw [HX.out.1, HX.out.2]; exact h
        · exact Hok.out j (by omega)
      have back : Hid ((∀ j, j < 3 → Fld regs (tri 1 0 0 j) (tri a b c j)) → Fld regs x y) := by
        intro h
        have := h k hk
        rw [HX.out.1, HX.out.2] at this
        exact this
      by_cases hx0 : x = 0
      · subst hx0
        by_cases hy0 : y = 0
        · subst hy0
          go_wp2
          go_roundg q
          case measure => omega
          case rel => exact ⟨k + 1, by omega, by first | rfl | simp, step.out ⟨fun _ => rfl, fun h => by simp at h⟩, rfl⟩
        · have hy1 : (y != 0) = true := by simp [hy0]
          have Hy : Hid (¬ y = 0) := hy0
          clear hy0
          go_wp2
          go_ret
          exact Says.no (fun h => Hy.out ((back.out (HP.out.1 h).2.1).1 rfl)) Hm.out
      by_cases hx1 : x = 1
      · subst hx1
        clear hx0
        by_cases hy0 : y < 0
        · have Hy : Hid (y < 0) := hy0
          go_wp2
          go_ret
          exact Says.no (fun h => by have := ((back.out (HP.out.1 h).2.1).2 rfl).1; have := Hy.out; omega) Hm.out
        by_cases hy1 : regs ≤ y
        · have Hy : Hid (regs ≤ y) := hy1
          go_wp2
          go_ret
          exact Says.no (fun h => by have := ((back.out (HP.out.1 h).2.1).2 rfl).2; have := Hy.out; omega) Hm.out
        have Hy : Hid (Reg regs y) := ⟨by omega, by omega⟩
        go_wp2
        go_roundg q
        case measure => omega
        case rel => exact ⟨k + 1, by omega, by first | rfl | simp, step.out ⟨fun h => by simp at h, fun _ => Hy.out⟩, rfl⟩
      have Hx : Hid (¬ x = 0 ∧ ¬ x = 1) := ⟨hx0, hx1⟩
      have hx2 : (x == 0) = false := by simp [hx0]
      have hx3 : (x == 1) = false := by simp [hx1]
      clear hx0 hx1
      go_wp2
      go_roundg q
      case measure => omega
      case rel => exact ⟨k + 1, by omega, by first | rfl | simp, step.out ⟨fun h => absurd h Hx.out.1, fun h => absurd h Hx.out.2⟩, rfl⟩

set_option maxRecDepth 8000 in
set_option maxHeartbeats 1000000 in
theorem ins_2 (ra : Option Addr) (rl rc : Nat) (ca : Option Addr) (cl cc : Nat) (a b c n regs : Int) (w : World) (P : Prop) (HP : Hid (P ↔ (n = 0 ∧ (∀ j, j < 3 → Fld regs (tri 1 1 0 j) (tri a b c j)) ∧ True))) :
    Calls Try.prog 73 #[.agg #[.slice ra rl rc, .slice ca cl cc], .agg #[.int .i64 2, .int .i64 a, .int .i64 b, .int .i64 c, .int .i64 n], .int .i64 regs] w (Says P w) := by
  go_enter Try.func73, Try.ntmps73
  go_wp2_with (fail)
  refine (shape_2 _).mono ?_
  rintro e w1 ⟨g, rfl, hg, m1⟩
  obtain ⟨⟨c0, c1⟩, d0, d1, d2, d3, d4⟩ := boxes2 m1
  have Hg : Hid (∀ j, j < 3 → w1.cell? ⟨g, j, none⟩ = some (.int .i64 (tri 1 1 0 j))) := hg
  have Hm1 : Hid (More w w1) := (((More.refl _).alloc _ _).alloc _ _).trans m1
  clear hg m1
  by_cases hn0 : n = 0
  rotate_left
  · have HN : Hid (¬ n = 0) := hn0
    have hn1 : (n != 0) = true := by simp [hn0]
    clear hn0
    go_wp2
    go_ret
    exact Says.no (fun h => HN.out (HP.out.1 h).1) Hm1.out
  have HN : Hid (n = 0) := hn0
  have hn1 : (n != 0) = false := by simp [hn0]
  clear hn0
  go_wp2
  obtain ⟨W, HW⟩ : ∃ W : World, Hid (W = w1.alloc (.cells #[.int .i64 a, .int .i64 b, .int .i64 c] 3)) := ⟨_, rfl⟩
  have Hm1W : Hid (More w1 W) := HW.out ▸ (More.refl _).alloc _ _
  have Hm : Hid (More w W) := Hm1.out.trans Hm1W.out
  have Hf : Hid (∀ j, j < 3 → W.cell? ⟨w1.heap.size, j, none⟩ = some (.int .i64 (tri a b c j))) := by rw [HW.out]; exact tri_cells (by go_simp) (by go_simp) (by go_simp)
  have Hg' : Hid (∀ j, j < 3 → W.cell? ⟨g, j, none⟩ = some (.int .i64 (tri 1 1 0 j))) := fun j hj => Hm1W.out.cell (Hg.out j hj)
  clear Hg
  replace c0 := Hm1W.out.cell c0
  replace c1 := Hm1W.out.cell c1
  replace d0 := Hm1W.out.cell d0
  replace d1 := Hm1W.out.cell d1
  replace d2 := Hm1W.out.cell d2
  replace d3 := Hm1W.out.cell d3
  replace d4 := Hm1W.out.cell d4
  go_loopg [11] 3 (fun q i wr => ∃ k : Nat, k + q = 3 ∧ i = .int .i64 k ∧ (∀ j, j < k → Fld regs (tri 1 1 0 j) (tri a b c j)) ∧ wr = W)
  case atStart => exact ⟨0, by omega, rfl, fun j hj => by omega, HW.out.symm⟩
  case round =>
    obtain ⟨k, hkg, rfl, hok, rfl⟩ := hrel
    have Hok : Hid (∀ j, j < k → Fld regs (tri 1 1 0 j) (tri a b c j)) := hok
    clear hok
    cases gk with
    | zero =>
      obtain rfl : k = 3 := by omega
      go_wp2
      go_ret
      exact Says.yes (HP.out.2 ⟨HN.out, Hok.out, trivial⟩) Hm.out
    | succ q =>
      clear d0 d1 d2 d3 d4 c0 c1
      have hk : k < 3 := by omega
      have hk' : (k : Int) < 3 := by omega
      have hk0 : (0 : Int) ≤ (k : Int) := by omega
      have qg := Hg'.out k hk
      have qf := Hf.out k hk
      obtain ⟨x, hx⟩ : ∃ x, tri 1 1 0 k = x := ⟨_, rfl⟩
      obtain ⟨y, hy⟩ : ∃ y, tri a b c k = y := ⟨_, rfl⟩
      rw [hx] at qg
      rw [hy] at qf
      have HX : Hid (tri 1 1 0 k = x ∧ tri a b c k = y) := ⟨hx, hy⟩
      clear hx hy
      have step : Hid (Fld regs x y → ∀ j, j < k + 1 → Fld regs (tri 1 1 0 j) (tri a b c j)) := by
        intro h j hj
        by_cases e : j = k
        · subst e; rw [HX.out.1, HX.out.2]; exact h
        · exact Hok.out j (by omega)
      have back : Hid ((∀ j, j < 3 → Fld regs (tri 1 1 0 j) (tri a b c j)) → Fld regs x y) := by
        intro h
        have := h k hk
        rw [HX.out.1, HX.out.2] at this
        exact this
      by_cases hx0 : x = 0
      · subst hx0
        by_cases hy0 : y = 0
        · subst hy0
          go_wp2
          go_roundg q
          case measure => omega
          case rel => exact ⟨k + 1, by omega, by first | rfl | simp, step.out ⟨fun _ => rfl, fun h => by simp at h⟩, rfl⟩
        · have hy1 : (y != 0) = true := by simp [hy0]
          have Hy : Hid (¬ y = 0) := hy0
          clear hy0
          go_wp2
          go_ret
          exact Says.no (fun h => Hy.out ((back.out (HP.out.1 h).2.1).1 rfl)) Hm.out
      by_cases hx1 : x = 1
      · subst hx1
        clear hx0
        by_cases hy0 : y < 0
        · have Hy : Hid (y < 0) := hy0
          go_wp2
          go_ret
          exact Says.no (fun h => by have := ((back.out (HP.out.1 h).2.1).2 rfl).1; have := Hy.out; omega) Hm.out
        by_cases hy1 : regs ≤ y
        · have Hy : Hid (regs ≤ y) := hy1
          go_wp2
          go_ret
          exact Says.no (fun h => by have := ((back.out (HP.out.1 h).2.1).2 rfl).2; have := Hy.out; omega) Hm.out
        have Hy : Hid (Reg regs y) := ⟨by omega, by omega⟩
        go_wp2
        go_roundg q
        case measure => omega
        case rel => exact ⟨k + 1, by omega, by first | rfl | simp, step.out ⟨fun h => by simp at h, fun _ => Hy.out⟩, rfl⟩
      have Hx : Hid (¬ x = 0 ∧ ¬ x = 1) := ⟨hx0, hx1⟩
      have hx2 : (x == 0) = false := by simp [hx0]
      have hx3 : (x == 1) = false := by simp [hx1]
      clear hx0 hx1
      go_wp2
      go_roundg q
      case measure => omega
      case rel => exact ⟨k + 1, by omega, by first | rfl | simp, step.out ⟨fun h => absurd h Hx.out.1, fun h => absurd h Hx.out.2⟩, rfl⟩

set_option maxRecDepth 8000 in
set_option maxHeartbeats 1000000 in
theorem ins_9 (ra : Option Addr) (rl rc : Nat) (ca : Option Addr) (cl cc : Nat) (a b c n regs : Int) (w : World) (P : Prop) (HP : Hid (P ↔ (n = 0 ∧ (∀ j, j < 3 → Fld regs (tri 1 0 0 j) (tri a b c j)) ∧ True))) :
    Calls Try.prog 73 #[.agg #[.slice ra rl rc, .slice ca cl cc], .agg #[.int .i64 9, .int .i64 a, .int .i64 b, .int .i64 c, .int .i64 n], .int .i64 regs] w (Says P w) := by
  go_enter Try.func73, Try.ntmps73
  go_wp2_with (fail)
  refine (shape_9 _).mono ?_
  rintro e w1 ⟨g, rfl, hg, m1⟩
  obtain ⟨⟨c0, c1⟩, d0, d1, d2, d3, d4⟩ := boxes2 m1
  have Hg : Hid (∀ j, j < 3 → w1.cell? ⟨g, j, none⟩ = some (.int .i64 (tri 1 0 0 j))) := hg
  have Hm1 : Hid (More w w1) := (((More.refl _).alloc _ _).alloc _ _).trans m1
  clear hg m1
  by_cases hn0 : n = 0
  rotate_left
  · have HN : Hid (¬ n = 0) := hn0
    have hn1 : (n != 0) = true := by simp [hn0]
    clear hn0
    go_wp2
    go_ret
    exact Says.no (fun h => HN.out (HP.out.1 h).1) Hm1.out
  have HN : Hid (n = 0) := hn0
  have hn1 : (n != 0) = false := by simp [hn0]
  clear hn0
  go_wp2
  obtain ⟨W, HW⟩ : ∃ W : World, Hid (W = w1.alloc (.cells #[.int .i64 a, .int .i64 b, .int .i64 c] 3)) := ⟨_, rfl⟩
  have Hm1W : Hid (More w1 W) := HW.out ▸ (More.refl _).alloc _ _
  have Hm : Hid (More w W) := Hm1.out.trans Hm1W.out
  have Hf : Hid (∀ j, j < 3 → W.cell? ⟨w1.heap.size, j, none⟩ = some (.int .i64 (tri a b c j))) := by rw [HW.out]; exact tri_cells (by go_simp) (by go_simp) (by go_simp)
  have Hg' : Hid (∀ j, j < 3 → W.cell? ⟨g, j, none⟩ = some (.int .i64 (tri 1 0 0 j))) := fun j hj => Hm1W.out.cell (Hg.out j hj)
  clear Hg
  replace c0 := Hm1W.out.cell c0
  replace c1 := Hm1W.out.cell c1
  replace d0 := Hm1W.out.cell d0
  replace d1 := Hm1W.out.cell d1
  replace d2 := Hm1W.out.cell d2
  replace d3 := Hm1W.out.cell d3
  replace d4 := Hm1W.out.cell d4
  go_loopg [11] 3 (fun q i wr => ∃ k : Nat, k + q = 3 ∧ i = .int .i64 k ∧ (∀ j, j < k → Fld regs (tri 1 0 0 j) (tri a b c j)) ∧ wr = W)
  case atStart => exact ⟨0, by omega, rfl, fun j hj => by omega, HW.out.symm⟩
  case round =>
    obtain ⟨k, hkg, rfl, hok, rfl⟩ := hrel
    have Hok : Hid (∀ j, j < k → Fld regs (tri 1 0 0 j) (tri a b c j)) := hok
    clear hok
    cases gk with
    | zero =>
      obtain rfl : k = 3 := by omega
      go_wp2
      go_ret
      exact Says.yes (HP.out.2 ⟨HN.out, Hok.out, trivial⟩) Hm.out
    | succ q =>
      clear d0 d1 d2 d3 d4 c0 c1
      have hk : k < 3 := by omega
      have hk' : (k : Int) < 3 := by omega
      have hk0 : (0 : Int) ≤ (k : Int) := by omega
      have qg := Hg'.out k hk
      have qf := Hf.out k hk
      obtain ⟨x, hx⟩ : ∃ x, tri 1 0 0 k = x := ⟨_, rfl⟩
      obtain ⟨y, hy⟩ : ∃ y, tri a b c k = y := ⟨_, rfl⟩
      rw [hx] at qg
      rw [hy] at qf
      have HX : Hid (tri 1 0 0 k = x ∧ tri a b c k = y) := ⟨hx, hy⟩
      clear hx hy
      have step : Hid (Fld regs x y → ∀ j, j < k + 1 → Fld regs (tri 1 0 0 j) (tri a b c j)) := by
        intro h j hj
        by_cases e : j = k
        · subst e; rw [HX.out.1, HX.out.2]; exact h
        · exact Hok.out j (by omega)
      have back : Hid ((∀ j, j < 3 → Fld regs (tri 1 0 0 j) (tri a b c j)) → Fld regs x y) := by
        intro h
        have := h k hk
        rw [HX.out.1, HX.out.2] at this
        exact this
      by_cases hx0 : x = 0
      · subst hx0
        by_cases hy0 : y = 0
        · subst hy0
          go_wp2
          go_roundg q
          case measure => omega
          case rel => exact ⟨k + 1, by omega, by first | rfl | simp, step.out ⟨fun _ => rfl, fun h => by simp at h⟩, rfl⟩
        · have hy1 : (y != 0) = true := by simp [hy0]
          have Hy : Hid (¬ y = 0) := hy0
          clear hy0
          go_wp2
          go_ret
          exact Says.no (fun h => Hy.out ((back.out (HP.out.1 h).2.1).1 rfl)) Hm.out
      by_cases hx1 : x = 1
      · subst hx1
        clear hx0
        by_cases hy0 : y < 0
        · have Hy : Hid (y < 0) := hy0
          go_wp2
          go_ret
          exact Says.no (fun h => by have := ((back.out (HP.out.1 h).2.1).2 rfl).1; have := Hy.out; omega) Hm.out
        by_cases hy1 : regs ≤ y
        · have Hy : Hid (regs ≤ y) := hy1
          go_wp2
          go_ret
          exact Says.no (fun h => by have := ((back.out (HP.out.1 h).2.1).2 rfl).2; have := Hy.out; omega) Hm.out
        have Hy : Hid (Reg regs y) := ⟨by omega, by omega⟩
        go_wp2
        go_roundg q
        case measure => omega
        case rel => exact ⟨k + 1, by omega, by first | rfl | simp, step.out ⟨fun h => by simp at h, fun _ => Hy.out⟩, rfl⟩
      have Hx : Hid (¬ x = 0 ∧ ¬ x = 1) := ⟨hx0, hx1⟩
      have hx2 : (x == 0) = false := by simp [hx0]
      have hx3 : (x == 1) = false := by simp [hx1]
      clear hx0 hx1
      go_wp2
      go_roundg q
      case measure => omega
      case rel => exact ⟨k + 1, by omega, by first | rfl | simp, step.out ⟨fun h => absurd h Hx.out.1, fun h => absurd h Hx.out.2⟩, rfl⟩
end
end Go.Proofs.Ytapagihngaiebaa
