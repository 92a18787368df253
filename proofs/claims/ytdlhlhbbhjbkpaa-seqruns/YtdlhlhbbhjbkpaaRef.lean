/-
  What a call of evenkeelref1.Op and of evenkeelref1.Holds does, for every operation or condition and any two numbers.
-/
import Derived.Test.YtdlhlhbbhjbkpaaDivide
namespace Go.Proofs.Ytdlhlhbbhjbkpaa
open Go.RowKit

theorem ref_1 (a b : Int) (w : World) :
    Calls Try.prog 12 #[.int .i64 1, .int .i64 a, .int .i64 b] w fun e w' => e = .returned (.int .i64 (wrap64 (a + b))) ∧ More w w' := by
  go_enter Try.func12, Try.ntmps12
  go_wp2
  go_ret
  exact ⟨rfl, More.refl _⟩

theorem ref_2 (a b : Int) (w : World) :
    Calls Try.prog 12 #[.int .i64 2, .int .i64 a, .int .i64 b] w fun e w' => e = .returned (.int .i64 (wrap64 (a - b))) ∧ More w w' := by
  go_enter Try.func12, Try.ntmps12
  go_wp2
  go_ret
  exact ⟨rfl, More.refl _⟩

theorem ref_3 (a b : Int) (w : World) :
    Calls Try.prog 12 #[.int .i64 3, .int .i64 a, .int .i64 b] w fun e w' => e = .returned (.int .i64 (wrap64 (a * b))) ∧ More w w' := by
  go_enter Try.func12, Try.ntmps12
  go_wp2
  go_ret
  exact ⟨rfl, More.refl _⟩

theorem ref_4 (a b : Int) (a0 : -9223372036854775808 ≤ a) (a1 : a ≤ 9223372036854775807) (b0 : -9223372036854775808 ≤ b) (b1 : b ≤ 9223372036854775807) (w : World) :
    Calls Try.prog 12 #[.int .i64 4, .int .i64 a, .int .i64 b] w fun e w' => e = .returned (.int .i64 (wrap64 ((toU a &&& toU b : Nat) : Int))) ∧ More w w' := by
  obtain ⟨U, hU⟩ : ∃ U, toU a &&& toU b = U := ⟨_, rfl⟩
  have c := bitwise_and a b U a0 a1 b0 b1 (by show U < _; rw [← hU]; exact Nat.lt_of_le_of_lt Nat.and_le_left (toU_lt a)) (by show ∀ k, _; intro k; rw [← hU]; exact Nat.testBit_and _ _ _) w
  rw [hU]
  clear hU
  go_enter Try.func12, Try.ntmps12
  go_wp2_with (fail)
  refine c.mono ?_
  rintro e w1 ⟨rfl, m1⟩
  go_wp2
  go_ret
  exact ⟨rfl, m1⟩

theorem ref_5 (a b : Int) (a0 : -9223372036854775808 ≤ a) (a1 : a ≤ 9223372036854775807) (b0 : -9223372036854775808 ≤ b) (b1 : b ≤ 9223372036854775807) (w : World) :
    Calls Try.prog 12 #[.int .i64 5, .int .i64 a, .int .i64 b] w fun e w' => e = .returned (.int .i64 (wrap64 ((toU a ||| toU b : Nat) : Int))) ∧ More w w' := by
  obtain ⟨U, hU⟩ : ∃ U, toU a ||| toU b = U := ⟨_, rfl⟩
  have c := bitwise_or a b U a0 a1 b0 b1 (by show U < _; rw [← hU]; exact Nat.or_lt_two_pow (n := 64) (toU_lt a) (toU_lt b)) (by show ∀ k, _; intro k; rw [← hU]; exact Nat.testBit_or _ _ _) w
  rw [hU]
  clear hU
  go_enter Try.func12, Try.ntmps12
  go_wp2_with (fail)
  refine c.mono ?_
  rintro e w1 ⟨rfl, m1⟩
  go_wp2
  go_ret
  exact ⟨rfl, m1⟩

theorem ref_6 (a b : Int) (a0 : -9223372036854775808 ≤ a) (a1 : a ≤ 9223372036854775807) (b0 : -9223372036854775808 ≤ b) (b1 : b ≤ 9223372036854775807) (w : World) :
    Calls Try.prog 12 #[.int .i64 6, .int .i64 a, .int .i64 b] w fun e w' => e = .returned (.int .i64 (wrap64 ((toU a ^^^ toU b : Nat) : Int))) ∧ More w w' := by
  obtain ⟨U, hU⟩ : ∃ U, toU a ^^^ toU b = U := ⟨_, rfl⟩
  have c := bitwise_xor a b U a0 a1 b0 b1 (by show U < _; rw [← hU]; exact Nat.xor_lt_two_pow (n := 64) (toU_lt a) (toU_lt b)) (by show ∀ k, _; intro k; rw [← hU]; exact Nat.testBit_xor _ _ _) w
  rw [hU]
  clear hU
  go_enter Try.func12, Try.ntmps12
  go_wp2_with (fail)
  refine c.mono ?_
  rintro e w1 ⟨rfl, m1⟩
  go_wp2
  go_ret
  exact ⟨rfl, m1⟩

theorem ref_other (op a b : Int) (w : World) (h : op < 1 ∨ 10 < op) :
    Calls Try.prog 12 #[.int .i64 op, .int .i64 a, .int .i64 b] w fun e w' => e = .returned (.int .i64 0) ∧ More w w' := by
  have e1 : (op == 1) = false := by simp; omega
  have e2 : (op == 2) = false := by simp; omega
  have e3 : (op == 3) = false := by simp; omega
  have e4 : (op == 4) = false := by simp; omega
  have e5 : (op == 5) = false := by simp; omega
  have e6 : (op == 6) = false := by simp; omega
  have e7 : (op == 7) = false := by simp; omega
  have e8 : (op == 8) = false := by simp; omega
  have e9 : (op == 9) = false := by simp; omega
  have e10 : (op == 10) = false := by simp; omega
  clear h
  go_enter Try.func12, Try.ntmps12
  go_wp2
  go_ret
  exact ⟨rfl, More.refl _⟩

theorem ref_9_zero (a : Int) (w : World) :
    Calls Try.prog 12 #[.int .i64 9, .int .i64 a, .int .i64 0] w fun e w' => e = .returned (.int .i64 0) ∧ More w w' := by
  go_enter Try.func12, Try.ntmps12
  go_wp2
  go_ret
  exact ⟨rfl, More.refl _⟩

theorem ref_9_more (a b : Int) (a0 : -9223372036854775808 ≤ a) (a1 : a ≤ 9223372036854775807) (b0 : -9223372036854775808 ≤ b) (b1 : b ≤ 9223372036854775807) (hb : (b == 0) = false) (w : World) :
    Calls Try.prog 12 #[.int .i64 9, .int .i64 a, .int .i64 b] w fun e w' => e = .returned (.int .i64 (wrap64 ((toU a / toU b : Nat) : Int))) ∧ More w w' := by
  have hB : Hid (0 < toU b) := by
    show 0 < toU b
    have : b ≠ 0 := by simpa using hb
    unfold toU; omega
  have c := divide_calls a b a0 a1 b0 b1 hB w
  obtain ⟨q, hq⟩ : ∃ q, wrap64 ((toU a / toU b : Nat) : Int) = q := ⟨_, rfl⟩
  obtain ⟨r, hr⟩ : ∃ r, wrap64 ((toU a % toU b : Nat) : Int) = r := ⟨_, rfl⟩
  rw [hq, hr] at c
  rw [hq]
  clear hq hr
  go_enter Try.func12, Try.ntmps12
  go_wp2_with (fail)
  refine c.mono ?_
  rintro e w1 ⟨rfl, m1⟩
  go_wp2
  go_ret
  exact ⟨rfl, m1⟩

theorem ref_10_zero (a : Int) (w : World) :
    Calls Try.prog 12 #[.int .i64 10, .int .i64 a, .int .i64 0] w fun e w' => e = .returned (.int .i64 a) ∧ More w w' := by
  go_enter Try.func12, Try.ntmps12
  go_wp2
  go_ret
  exact ⟨rfl, More.refl _⟩

theorem ref_10_more (a b : Int) (a0 : -9223372036854775808 ≤ a) (a1 : a ≤ 9223372036854775807) (b0 : -9223372036854775808 ≤ b) (b1 : b ≤ 9223372036854775807) (hb : (b == 0) = false) (w : World) :
    Calls Try.prog 12 #[.int .i64 10, .int .i64 a, .int .i64 b] w fun e w' => e = .returned (.int .i64 (wrap64 ((toU a % toU b : Nat) : Int))) ∧ More w w' := by
  have hB : Hid (0 < toU b) := by
    show 0 < toU b
    have : b ≠ 0 := by simpa using hb
    unfold toU; omega
  have c := divide_calls a b a0 a1 b0 b1 hB w
  obtain ⟨q, hq⟩ : ∃ q, wrap64 ((toU a / toU b : Nat) : Int) = q := ⟨_, rfl⟩
  obtain ⟨r, hr⟩ : ∃ r, wrap64 ((toU a % toU b : Nat) : Int) = r := ⟨_, rfl⟩
  rw [hq, hr] at c
  rw [hr]
  clear hq hr
  go_enter Try.func12, Try.ntmps12
  go_wp2_with (fail)
  refine c.mono ?_
  rintro e w1 ⟨rfl, m1⟩
  go_wp2
  go_ret
  exact ⟨rfl, m1⟩

set_option maxHeartbeats 1000000 in
theorem ref_7 (a b : Int) (R : Int) (b0 : -9223372036854775808 ≤ b) (b1 : b ≤ 9223372036854775807)
    (hR : Hid (∀ w : World, Calls Try.prog 29 #[.int .i64 a, .int .i64 (((toU b % 64 : Nat) : Int))] w fun e w' => e = .returned (.int .i64 R) ∧ More w w')) (w : World) :
    Calls Try.prog 12 #[.int .i64 7, .int .i64 a, .int .i64 b] w fun e w' => e = .returned (.int .i64 R) ∧ More w w' := by
  go_enter Try.func12, Try.ntmps12
  go_wp2_with (fail)
  refine (bits_cells b b0 b1 _).mono ?_
  rintro e w1 ⟨cy, rfl, hy, m1⟩
  go_wp2_with (refine wpList_store_row rfl 50 (.tmp 7) (.tmp 41) rfl _ _ rfl rfl 50 _ (heap_alloc_last _ _) (info_of hy) (size_of hy) (one_of hy) ?_; rw [World.setRow_alloc_new])
  have H0 := (m1.alloc cy 50)
  have hsz := (size_of hy).symm
  go_loopg [8, 9, 10] 6 (fun g sv pv i wr => ∃ (k : Nat) (s p : Int), k + g = 6 ∧ Hid (s = ((toU b % 2 ^ k : Nat) : Int)) ∧ Hid (p = ((2 ^ k : Nat) : Int)) ∧ 0 ≤ s ∧ s < 64 ∧ 0 ≤ p ∧ p ≤ 64 ∧ sv = .int .i64 s ∧ pv = .int .i64 p ∧ i = .int .i64 k ∧ wr = w1.alloc (.cells cy 50))
  case atStart => exact ⟨0, 0, 1, by omega, by show (0 : Int) = _; simp [Nat.mod_one], rfl, by omega, by omega, by omega, by omega, rfl, rfl, rfl, rfl⟩
  case round =>
    obtain ⟨k, s, p, hkg, hs, hp, s0, s1, p0, p1, rfl, rfl, rfl, rfl⟩ := hrel
    cases gk with
    | zero =>
      obtain rfl : k = 6 := by omega
      have c := hR.out (w1.alloc (.cells cy 50))
      rw [show ((toU b % 64 : Nat) : Int) = s from hs.out.symm] at c
      go_wp2_with (fail)
      refine c.mono ?_
      rintro e w2 ⟨rfl, m2⟩
      go_wp2
      go_ret
      exact ⟨rfl, H0.trans m2⟩
    | succ g =>
      have hk : k < 6 := by omega
      have hk64 : k < 64 := by omega
      have hk' : (k : Int) < 64 := by omega
      have hk6 : (k : Int) < 6 := by omega
      obtain ⟨x, ex⟩ : ∃ x, (toU b).testBit k = x := ⟨_, rfl⟩
      have hcs : cy[k]'(by omega) = .bool x := by have h := get_of hy k (by omega); rw [ex] at h; exact (Array.getElem?_eq_some_iff.1 h).2
      have hpw : Hid (p + p = ((2 ^ (k + 1) : Nat) : Int)) := by show p + p = _; rw [hp.out, Nat.pow_succ]; omega
      have hpb : p ≤ 32 := by
        rw [hp.out]
        have : 2 ^ k ≤ 2 ^ 5 := Nat.pow_le_pow_right (by omega) (by omega)
        omega
      have hmod : toU b % 2 ^ (k + 1) = toU b % 2 ^ k + 2 ^ k * (toU b / 2 ^ k % 2) := Nat.mod_pow_succ
      have htb := Nat.testBit_eq_decide_div_mod_eq (x := toU b) (i := k)
      rw [ex] at htb
      cases x with
      | true =>
        have h1 : toU b / 2 ^ k % 2 = 1 := by simpa using htb.symm
        have hsn : Hid (s + p = ((toU b % 2 ^ (k + 1) : Nat) : Int)) := by
          show s + p = _
          rw [hmod, h1, hs.out, hp.out]; push_cast; omega
        have hsb : s + p < 64 := by
          rw [hsn.out]
          have h2 : toU b % 2 ^ (k + 1) < 2 ^ (k + 1) := Nat.mod_lt _ (Nat.pow_pos (by decide))
          have h3 : 2 ^ (k + 1) ≤ 2 ^ 6 := Nat.pow_le_pow_right (by omega) (by omega)
          omega
        clear hmod htb h1 ex
        go_wp2
        go_roundg g
        case measure => omega
        case rel => exact ⟨k + 1, s + p, p + p, by omega, hsn, hpw, by omega, by omega, by omega, by omega, rfl, rfl, by first | rfl | simp, rfl⟩
      | false =>
        have h1 : toU b / 2 ^ k % 2 = 0 := by
          have h2 : ¬ toU b / 2 ^ k % 2 = 1 := by simpa using htb.symm
          omega
        have hsn : Hid (s = ((toU b % 2 ^ (k + 1) : Nat) : Int)) := by
          show s = _
          rw [hmod, h1, hs.out]; simp
        clear hmod htb h1 ex
        go_wp2
        go_roundg g
        case measure => omega
        case rel => exact ⟨k + 1, s, p + p, by omega, hsn, hpw, by omega, by omega, by omega, by omega, rfl, rfl, by first | rfl | simp, rfl⟩

set_option maxHeartbeats 1000000 in
theorem ref_8 (a b : Int) (R : Int) (b0 : -9223372036854775808 ≤ b) (b1 : b ≤ 9223372036854775807)
    (hR : Hid (∀ w : World, Calls Try.prog 29 #[.int .i64 a, .int .i64 (-((toU b % 64 : Nat) : Int))] w fun e w' => e = .returned (.int .i64 R) ∧ More w w')) (w : World) :
    Calls Try.prog 12 #[.int .i64 8, .int .i64 a, .int .i64 b] w fun e w' => e = .returned (.int .i64 R) ∧ More w w' := by
  go_enter Try.func12, Try.ntmps12
  go_wp2_with (fail)
  refine (bits_cells b b0 b1 _).mono ?_
  rintro e w1 ⟨cy, rfl, hy, m1⟩
  go_wp2_with (refine wpList_store_row rfl 50 (.tmp 7) (.tmp 41) rfl _ _ rfl rfl 50 _ (heap_alloc_last _ _) (info_of hy) (size_of hy) (one_of hy) ?_; rw [World.setRow_alloc_new])
  have H0 := (m1.alloc cy 50)
  have hsz := (size_of hy).symm
  go_loopg [8, 9, 10] 6 (fun g sv pv i wr => ∃ (k : Nat) (s p : Int), k + g = 6 ∧ Hid (s = ((toU b % 2 ^ k : Nat) : Int)) ∧ Hid (p = ((2 ^ k : Nat) : Int)) ∧ 0 ≤ s ∧ s < 64 ∧ 0 ≤ p ∧ p ≤ 64 ∧ sv = .int .i64 s ∧ pv = .int .i64 p ∧ i = .int .i64 k ∧ wr = w1.alloc (.cells cy 50))
  case atStart => exact ⟨0, 0, 1, by omega, by show (0 : Int) = _; simp [Nat.mod_one], rfl, by omega, by omega, by omega, by omega, rfl, rfl, rfl, rfl⟩
  case round =>
    obtain ⟨k, s, p, hkg, hs, hp, s0, s1, p0, p1, rfl, rfl, rfl, rfl⟩ := hrel
    cases gk with
    | zero =>
      obtain rfl : k = 6 := by omega
      have c := hR.out (w1.alloc (.cells cy 50))
      rw [show ((toU b % 64 : Nat) : Int) = s from hs.out.symm] at c
      go_wp2_with (fail)
      refine c.mono ?_
      rintro e w2 ⟨rfl, m2⟩
      go_wp2
      go_ret
      exact ⟨rfl, H0.trans m2⟩
    | succ g =>
      have hk : k < 6 := by omega
      have hk64 : k < 64 := by omega
      have hk' : (k : Int) < 64 := by omega
      have hk6 : (k : Int) < 6 := by omega
      obtain ⟨x, ex⟩ : ∃ x, (toU b).testBit k = x := ⟨_, rfl⟩
      have hcs : cy[k]'(by omega) = .bool x := by have h := get_of hy k (by omega); rw [ex] at h; exact (Array.getElem?_eq_some_iff.1 h).2
      have hpw : Hid (p + p = ((2 ^ (k + 1) : Nat) : Int)) := by show p + p = _; rw [hp.out, Nat.pow_succ]; omega
      have hpb : p ≤ 32 := by
        rw [hp.out]
        have : 2 ^ k ≤ 2 ^ 5 := Nat.pow_le_pow_right (by omega) (by omega)
        omega
      have hmod : toU b % 2 ^ (k + 1) = toU b % 2 ^ k + 2 ^ k * (toU b / 2 ^ k % 2) := Nat.mod_pow_succ
      have htb := Nat.testBit_eq_decide_div_mod_eq (x := toU b) (i := k)
      rw [ex] at htb
      cases x with
      | true =>
        have h1 : toU b / 2 ^ k % 2 = 1 := by simpa using htb.symm
        have hsn : Hid (s + p = ((toU b % 2 ^ (k + 1) : Nat) : Int)) := by
          show s + p = _
          rw [hmod, h1, hs.out, hp.out]; push_cast; omega
        have hsb : s + p < 64 := by
          rw [hsn.out]
          have h2 : toU b % 2 ^ (k + 1) < 2 ^ (k + 1) := Nat.mod_lt _ (Nat.pow_pos (by decide))
          have h3 : 2 ^ (k + 1) ≤ 2 ^ 6 := Nat.pow_le_pow_right (by omega) (by omega)
          omega
        clear hmod htb h1 ex
        go_wp2
        go_roundg g
        case measure => omega
        case rel => exact ⟨k + 1, s + p, p + p, by omega, hsn, hpw, by omega, by omega, by omega, by omega, rfl, rfl, by first | rfl | simp, rfl⟩
      | false =>
        have h1 : toU b / 2 ^ k % 2 = 0 := by
          have h2 : ¬ toU b / 2 ^ k % 2 = 1 := by simpa using htb.symm
          omega
        have hsn : Hid (s = ((toU b % 2 ^ (k + 1) : Nat) : Int)) := by
          show s = _
          rw [hmod, h1, hs.out]; simp
        clear hmod htb h1 ex
        go_wp2
        go_roundg g
        case measure => omega
        case rel => exact ⟨k + 1, s, p + p, by omega, hsn, hpw, by omega, by omega, by omega, by omega, rfl, rfl, by first | rfl | simp, rfl⟩

theorem wrap_mod (n : Nat) : wrap64 ((n % 18446744073709551616 : Nat) : Int) = wrap64 (n : Int) := by unfold wrap64; omega
theorem wrap_back (a : Int) (a0 : -9223372036854775808 ≤ a) (a1 : a ≤ 9223372036854775807) : wrap64 ((toU a : Nat) : Int) = a := by rw [toU_cast]; unfold wrap64; omega
theorem wrap_nil : wrap64 ((0 : Nat) : Int) = 0 := by unfold wrap64; omega

theorem shift_up (a b : Int) (a0 : -9223372036854775808 ≤ a) (a1 : a ≤ 9223372036854775807) (w : World) :
    Calls Try.prog 29 #[.int .i64 a, .int .i64 (((toU b % 64 : Nat)) : Int)] w fun e w' => e = .returned (.int .i64 (wrap64 ((toU a * 2 ^ (toU b % 64) : Nat) : Int))) ∧ More w w' := by
  have hs : toU b % 64 < 64 := Nat.mod_lt _ (by decide)
  generalize toU b % 64 = s at *
  rw [← wrap_mod]
  refine shift_calls a (s : Int) _ a0 a1 (by omega) (by omega) (Nat.mod_lt _ (by decide)) ?_ w
  show ∀ k, _
  intro k hk
  have e : (18446744073709551616 : Nat) = 2 ^ 64 := by decide
  rw [e, Nat.testBit_mod_two_pow, Nat.testBit_mul_two_pow]
  by_cases h : s ≤ k
  · have h1 : ((k : Int) - (s : Int)).toNat = k - s := by omega
    have h2 : (0 ≤ (k : Int) - (s : Int) ∧ (k : Int) - (s : Int) < 64) := by omega
    rw [h1]; simp [hk, h, h2]
  · have h2 : ¬ (0 ≤ (k : Int) - (s : Int) ∧ (k : Int) - (s : Int) < 64) := by omega
    simp only [h, h2]; simp

theorem shift_down (a b : Int) (a0 : -9223372036854775808 ≤ a) (a1 : a ≤ 9223372036854775807) (w : World) :
    Calls Try.prog 29 #[.int .i64 a, .int .i64 (-(((toU b % 64 : Nat)) : Int))] w fun e w' => e = .returned (.int .i64 (wrap64 ((toU a / 2 ^ (toU b % 64) : Nat) : Int))) ∧ More w w' := by
  have hs : toU b % 64 < 64 := Nat.mod_lt _ (by decide)
  generalize toU b % 64 = s at *
  refine shift_calls a (-(s : Int)) _ a0 a1 (by omega) (by omega) (Nat.lt_of_le_of_lt (Nat.div_le_self _ _) (toU_lt a)) ?_ w
  show ∀ k, _
  intro k hk
  have h1 : ((k : Int) - -(s : Int)).toNat = k + s := by omega
  rw [Nat.testBit_div_two_pow, h1]
  by_cases h : k + s < 64
  · rw [decide_eq_true (by omega), Bool.true_and]
  · have h2 : ¬ (0 ≤ (k : Int) - -(s : Int) ∧ (k : Int) - -(s : Int) < 64) := by omega
    have h3 : (toU a).testBit (k + s) = false := Nat.testBit_lt_two_pow (Nat.lt_of_lt_of_le (toU_lt a) (by
      have : 2 ^ 64 ≤ 2 ^ (k + s) := Nat.pow_le_pow_right (by decide) (by omega)
      omega))
    rw [h3]; simp

/-- evenkeelref1.Op, whatever the operation. -/
theorem ref_op (op a b : Int) (a0 : -9223372036854775808 ≤ a) (a1 : a ≤ 9223372036854775807) (b0 : -9223372036854775808 ≤ b) (b1 : b ≤ 9223372036854775807) (w : World) :
    Calls Try.prog 12 #[.int .i64 op, .int .i64 a, .int .i64 b] w fun e w' => e = .returned (.int .i64 (opI op a b)) ∧ More w w' := by
  by_cases h : op < 1 ∨ 10 < op
  · rw [show opI op a b = 0 by unfold opI; rw [if_neg (by omega), if_neg (by omega), if_neg (by omega), if_neg (by omega), if_neg (by omega), if_neg (by omega), if_neg (by omega), if_neg (by omega), if_neg (by omega), if_neg (by omega)]]
    exact ref_other op a b w h
  have hs : op = 1 ∨ op = 2 ∨ op = 3 ∨ op = 4 ∨ op = 5 ∨ op = 6 ∨ op = 7 ∨ op = 8 ∨ op = 9 ∨ op = 10 := by omega
  rcases hs with rfl | rfl | rfl | rfl | rfl | rfl | rfl | rfl | rfl | rfl
  · rw [opI_1]; exact ref_1 a b w
  · rw [opI_2]; exact ref_2 a b w
  · rw [opI_3]; exact ref_3 a b w
  · rw [opI_4]; exact ref_4 a b a0 a1 b0 b1 w
  · rw [opI_5]; exact ref_5 a b a0 a1 b0 b1 w
  · rw [opI_6]; exact ref_6 a b a0 a1 b0 b1 w
  · rw [opI_7]; exact ref_7 a b _ b0 b1 (fun w => shift_up a b a0 a1 w) w
  · rw [opI_8]; exact ref_8 a b _ b0 b1 (fun w => shift_down a b a0 a1 w) w
  · by_cases hb : b = 0
    · subst hb
      rw [opI_9, show toU 0 = 0 by unfold toU; omega, Nat.div_zero, wrap_nil]
      exact ref_9_zero a w
    · rw [opI_9]; exact ref_9_more a b a0 a1 b0 b1 (by simp [hb]) w
  · by_cases hb : b = 0
    · subst hb
      rw [opI_10, show toU 0 = 0 by unfold toU; omega, Nat.mod_zero, wrap_back a a0 a1]
      exact ref_10_zero a w
    · rw [opI_10]; exact ref_10_more a b a0 a1 b0 b1 (by simp [hb]) w

/-! ### Holds -/
theorem rh_1 (a b : Int) (w : World) :
    Calls Try.prog 13 #[.int .i64 1, .int .i64 a, .int .i64 b] w fun e w' => e = .returned (.bool (a == b)) ∧ More w w' := by
  go_enter Try.func13, Try.ntmps13
  go_wp2
  go_ret
  exact ⟨rfl, More.refl _⟩
theorem rh_2 (a b : Int) (w : World) :
    Calls Try.prog 13 #[.int .i64 2, .int .i64 a, .int .i64 b] w fun e w' => e = .returned (.bool (a != b)) ∧ More w w' := by
  go_enter Try.func13, Try.ntmps13
  go_wp2
  go_ret
  exact ⟨rfl, More.refl _⟩
theorem rh_3 (a b : Int) (v : Bool) (hv : ∀ w : World, Calls Try.prog 31 #[.int .i64 a, .int .i64 b] w fun e w' => e = .returned (.bool v) ∧ w' = w) (w : World) :
    Calls Try.prog 13 #[.int .i64 3, .int .i64 a, .int .i64 b] w fun e w' => e = .returned (.bool v) ∧ More w w' := by
  go_enter Try.func13, Try.ntmps13
  go_wp2_with (fail)
  refine (hv w).mono ?_
  rintro e w' ⟨rfl, hw⟩
  rw [hw]
  go_wp2
  go_ret
  exact ⟨rfl, More.refl _⟩
theorem rh_4 (a b : Int) (v : Bool) (hv : ∀ w : World, Calls Try.prog 31 #[.int .i64 a, .int .i64 b] w fun e w' => e = .returned (.bool v) ∧ w' = w) (w : World) :
    Calls Try.prog 13 #[.int .i64 4, .int .i64 a, .int .i64 b] w fun e w' => e = .returned (.bool !v) ∧ More w w' := by
  go_enter Try.func13, Try.ntmps13
  go_wp2_with (fail)
  refine (hv w).mono ?_
  rintro e w' ⟨rfl, hw⟩
  rw [hw]
  go_wp2
  go_ret
  exact ⟨rfl, More.refl _⟩
theorem rh_other (c a b : Int) (w : World) (h1 : (c == 1) = false) (h2 : (c == 2) = false) (h3 : (c == 3) = false) (h4 : (c == 4) = false) :
    Calls Try.prog 13 #[.int .i64 c, .int .i64 a, .int .i64 b] w fun e w' => e = .returned (.bool false) ∧ More w w' := by
  go_enter Try.func13, Try.ntmps13
  go_wp2
  go_ret
  exact ⟨rfl, More.refl _⟩

/-- evenkeelref1.Holds, whatever the condition. -/
theorem ref_holds (c a b : Int) (a0 : -9223372036854775808 ≤ a) (a1 : a ≤ 9223372036854775807) (b0 : -9223372036854775808 ≤ b) (b1 : b ≤ 9223372036854775807) (w : World) :
    Calls Try.prog 13 #[.int .i64 c, .int .i64 a, .int .i64 b] w fun e w' => e = .returned (.bool (holdsI c a b)) ∧ More w w' := by
  by_cases h1 : c = 1
  · subst h1
    rw [show holdsI 1 a b = (a == b) by simp only [holdsI]; rw [Bool.eq_iff_iff]; simp; unfold toU; omega]
    exact rh_1 a b w
  by_cases h2 : c = 2
  · subst h2
    rw [show holdsI 2 a b = (a != b) by simp only [holdsI]; rw [Bool.eq_iff_iff]; simp; unfold toU; omega]
    exact rh_2 a b w
  by_cases h3 : c = 3
  · subst h3
    rw [show holdsI 3 a b = decide (toU a < toU b) by simp [holdsI]]
    exact rh_3 a b _ (fun w => below_calls a b a0 a1 b0 b1 w) w
  by_cases h4 : c = 4
  · subst h4
    rw [show holdsI 4 a b = !decide (toU a < toU b) by simp [holdsI]; rw [Bool.eq_iff_iff]; simp]
    exact rh_4 a b _ (fun w => below_calls a b a0 a1 b0 b1 w) w
  rw [show holdsI c a b = false by simp [holdsI, *]]
  exact rh_other c a b w (by simp [h1]) (by simp [h2]) (by simp [h3]) (by simp [h4])

end Go.Proofs.Ytdlhlhbbhjbkpaa
