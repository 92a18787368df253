/-
  The texts Ref, RefStep, RefMore, Copy, Own, Inv, PAt, PlayAux, StepEq, Way, Play, one behind the other, with what is used of them.
-/
import Derived.Test.YtmpafeoileonjaaJoined4
import Derived.Test.YtmpafeoileonjaaRows
import Derived.WalkKit
import Derived.Deep.LoopGhost
import Derived.Test.YtmpafeoileonjaaJoined0
import Derived.Test.YtmpafeoileonjaaJoined3
import Derived.Deep.AppendLies
import Derived.OwnWalk
import Derived.Laws.OwnMore
import Derived.Deep.OwnRows
import Derived.Laws.AppendOwnNone
namespace Go.Proofs.Ytmpafeoileonjaa
section
open Go.RowKit
theorem ref_1 (a b : Int) (w : World) :
  Calls Try.prog 55 #[.int .i64 1, .int .i64 a, .int .i64 b] w fun e w' => e = .returned (.int .i64 (wrap64 (a + b))) ∧ More w w' := by
 go_enter Try.func55, Try.ntmps55
 go_wp2
 go_ret
 exact ⟨rfl, More.refl _⟩

theorem ref_2 (a b : Int) (w : World) :
  Calls Try.prog 55 #[.int .i64 2, .int .i64 a, .int .i64 b] w fun e w' => e = .returned (.int .i64 (wrap64 (a - b))) ∧ More w w' := by
 go_enter Try.func55, Try.ntmps55
 go_wp2
 go_ret
 exact ⟨rfl, More.refl _⟩

theorem ref_3 (a b : Int) (w : World) :
  Calls Try.prog 55 #[.int .i64 3, .int .i64 a, .int .i64 b] w fun e w' => e = .returned (.int .i64 (wrap64 (a * b))) ∧ More w w' := by
 go_enter Try.func55, Try.ntmps55
 go_wp2
 go_ret
 exact ⟨rfl, More.refl _⟩

theorem ref_4 (a b : Int) (a0 : -9223372036854775808 ≤ a) (a1 : a ≤ 9223372036854775807) (b0 : -9223372036854775808 ≤ b) (b1 : b ≤ 9223372036854775807) (w : World) :
  Calls Try.prog 55 #[.int .i64 4, .int .i64 a, .int .i64 b] w fun e w' => e = .returned (.int .i64 (wrap64 ((toU a &&& toU b : Nat) : Int))) ∧ More w w' := by
 obtain ⟨U, hU⟩ : ∃ U, toU a &&& toU b = U := ⟨_, rfl⟩
 have c := bitwise_and a b U a0 a1 b0 b1 (by show U < _; rw [← hU]; exact Nat.lt_of_le_of_lt Nat.and_le_left (toU_lt a)) (by show ∀ k, _; intro k; rw [← hU]; exact Nat.testBit_and _ _ _) w
 rw [hU]
 clear hU
 go_enter Try.func55, Try.ntmps55
 go_wp2_with (fail)
 refine c.mono ?_
 rintro e w1 ⟨rfl, m1⟩
 go_wp2
 go_ret
 exact ⟨rfl, m1⟩

theorem ref_5 (a b : Int) (a0 : -9223372036854775808 ≤ a) (a1 : a ≤ 9223372036854775807) (b0 : -9223372036854775808 ≤ b) (b1 : b ≤ 9223372036854775807) (w : World) :
  Calls Try.prog 55 #[.int .i64 5, .int .i64 a, .int .i64 b] w fun e w' => e = .returned (.int .i64 (wrap64 ((toU a ||| toU b : Nat) : Int))) ∧ More w w' := by
 obtain ⟨U, hU⟩ : ∃ U, toU a ||| toU b = U := ⟨_, rfl⟩
 have c := bitwise_or a b U a0 a1 b0 b1 (by show U < _; rw [← hU]; exact Nat.or_lt_two_pow (n := 64) (toU_lt a) (toU_lt b)) (by show ∀ k, _; intro k; rw [← hU]; exact Nat.testBit_or _ _ _) w
 rw [hU]
 clear hU
 go_enter Try.func55, Try.ntmps55
 go_wp2_with (fail)
 refine c.mono ?_
 rintro e w1 ⟨rfl, m1⟩
 go_wp2
 go_ret
 exact ⟨rfl, m1⟩

theorem ref_6 (a b : Int) (a0 : -9223372036854775808 ≤ a) (a1 : a ≤ 9223372036854775807) (b0 : -9223372036854775808 ≤ b) (b1 : b ≤ 9223372036854775807) (w : World) :
  Calls Try.prog 55 #[.int .i64 6, .int .i64 a, .int .i64 b] w fun e w' => e = .returned (.int .i64 (wrap64 ((toU a ^^^ toU b : Nat) : Int))) ∧ More w w' := by
 obtain ⟨U, hU⟩ : ∃ U, toU a ^^^ toU b = U := ⟨_, rfl⟩
 have c := bitwise_xor a b U a0 a1 b0 b1 (by show U < _; rw [← hU]; exact Nat.xor_lt_two_pow (n := 64) (toU_lt a) (toU_lt b)) (by show ∀ k, _; intro k; rw [← hU]; exact Nat.testBit_xor _ _ _) w
 rw [hU]
 clear hU
 go_enter Try.func55, Try.ntmps55
 go_wp2_with (fail)
 refine c.mono ?_
 rintro e w1 ⟨rfl, m1⟩
 go_wp2
 go_ret
 exact ⟨rfl, m1⟩

theorem ref_other (op a b : Int) (w : World) (h : op < 1 ∨ 10 < op) :
  Calls Try.prog 55 #[.int .i64 op, .int .i64 a, .int .i64 b] w fun e w' => e = .returned (.int .i64 0) ∧ More w w' := by
 have e1 : (op == 1) = false := by simp; omega
 have e2 : (op == 2) = false := by simp; omega
 have e3 : (op == 3) = false := by simp; omega
 have e4 : (op == 4) = false := by simp; omega
 have e5 : (op == 5) = false := by simp; omega
 have e6 : (op == 6) = false := by simp; omega
 have e7 : (op == 7) = false := by simp; omega
 have e8 : (op == 8) = false := by simp; omega
 have e9 : (op == 9) = false := by simp; omega
 have e10 : (op == 10) = false := by simp; omega
 clear h
 go_enter Try.func55, Try.ntmps55
 go_wp2
 go_ret
 exact ⟨rfl, More.refl _⟩

theorem ref_9_zero (a : Int) (w : World) :
  Calls Try.prog 55 #[.int .i64 9, .int .i64 a, .int .i64 0] w fun e w' => e = .returned (.int .i64 0) ∧ More w w' := by
 go_enter Try.func55, Try.ntmps55
 go_wp2
 go_ret
 exact ⟨rfl, More.refl _⟩

theorem ref_9_more (a b : Int) (a0 : -9223372036854775808 ≤ a) (a1 : a ≤ 9223372036854775807) (b0 : -9223372036854775808 ≤ b) (b1 : b ≤ 9223372036854775807) (hb : (b == 0) = false) (w : World) :
  Calls Try.prog 55 #[.int .i64 9, .int .i64 a, .int .i64 b] w fun e w' => e = .returned (.int .i64 (wrap64 ((toU a / toU b : Nat) : Int))) ∧ More w w' := by
 have hB : Hid (0 < toU b) := by
  show 0 < toU b
  have : b ≠ 0 := by simpa using hb
  unfold toU; omega
 have c := divide_calls a b a0 a1 b0 b1 hB w
 obtain ⟨q, hq⟩ : ∃ q, wrap64 ((toU a / toU b : Nat) : Int) = q := ⟨_, rfl⟩
 obtain ⟨r, hr⟩ : ∃ r, wrap64 ((toU a % toU b : Nat) : Int) = r := ⟨_, rfl⟩
 rw [hq, hr] at c
 rw [hq]
 clear hq hr
 go_enter Try.func55, Try.ntmps55
 go_wp2_with (fail)
 refine c.mono ?_
 rintro e w1 ⟨rfl, m1⟩
 go_wp2
 go_ret
 exact ⟨rfl, m1⟩

theorem ref_10_zero (a : Int) (w : World) :
  Calls Try.prog 55 #[.int .i64 10, .int .i64 a, .int .i64 0] w fun e w' => e = .returned (.int .i64 a) ∧ More w w' := by
 go_enter Try.func55, Try.ntmps55
 go_wp2
 go_ret
 exact ⟨rfl, More.refl _⟩

theorem ref_10_more (a b : Int) (a0 : -9223372036854775808 ≤ a) (a1 : a ≤ 9223372036854775807) (b0 : -9223372036854775808 ≤ b) (b1 : b ≤ 9223372036854775807) (hb : (b == 0) = false) (w : World) :
  Calls Try.prog 55 #[.int .i64 10, .int .i64 a, .int .i64 b] w fun e w' => e = .returned (.int .i64 (wrap64 ((toU a % toU b : Nat) : Int))) ∧ More w w' := by
 have hB : Hid (0 < toU b) := by
  show 0 < toU b
  have : b ≠ 0 := by simpa using hb
  unfold toU; omega
 have c := divide_calls a b a0 a1 b0 b1 hB w
 obtain ⟨q, hq⟩ : ∃ q, wrap64 ((toU a / toU b : Nat) : Int) = q := ⟨_, rfl⟩
 obtain ⟨r, hr⟩ : ∃ r, wrap64 ((toU a % toU b : Nat) : Int) = r := ⟨_, rfl⟩
 rw [hq, hr] at c
 rw [hr]
 clear hq hr
 go_enter Try.func55, Try.ntmps55
 go_wp2_with (fail)
 refine c.mono ?_
 rintro e w1 ⟨rfl, m1⟩
 go_wp2
 go_ret
 exact ⟨rfl, m1⟩

set_option maxHeartbeats 1000000 in
theorem ref_7 (a b : Int) (R : Int) (b0 : -9223372036854775808 ≤ b) (b1 : b ≤ 9223372036854775807)
  (hR : Hid (∀ w : World, Calls Try.prog 70 #[.int .i64 a, .int .i64 (((toU b % 64 : Nat) : Int))] w fun e w' => e = .returned (.int .i64 R) ∧ More w w')) (w : World) :
  Calls Try.prog 55 #[.int .i64 7, .int .i64 a, .int .i64 b] w fun e w' => e = .returned (.int .i64 R) ∧ More w w' := by
 go_enter Try.func55, Try.ntmps55
 go_wp2_with (fail)
 refine (bits_cells b b0 b1 _).mono ?_
 rintro e w1 ⟨cy, rfl, hy, m1⟩
 go_wp2_with (refine wpList_store_row rfl 123 (.tmp 7) (.tmp 41) rfl _ _ rfl rfl 123 _ (heap_alloc_last _ _) (info_of hy) (size_of hy) (one_of hy) ?_; rw [World.setRow_alloc_new])
 have H0 := (m1.alloc cy 123)
 have hsz := (size_of hy).symm
 go_loopg [8, 9, 10] 6 (fun g sv pv i wr => ∃ (k : Nat) (s p : Int), k + g = 6 ∧ Hid (s = ((toU b % 2 ^ k : Nat) : Int)) ∧ Hid (p = ((2 ^ k : Nat) : Int)) ∧ 0 ≤ s ∧ s < 64 ∧ 0 ≤ p ∧ p ≤ 64 ∧ sv = .int .i64 s ∧ pv = .int .i64 p ∧ i = .int .i64 k ∧ wr = w1.alloc (.cells cy 123))
 case atStart => exact ⟨0, 0, 1, by omega, by show (0 : Int) = _; simp [Nat.mod_one], rfl, by omega, by omega, by omega, by omega, rfl, rfl, rfl, rfl⟩
 case round =>
  obtain ⟨k, s, p, hkg, hs, hp, s0, s1, p0, p1, rfl, rfl, rfl, rfl⟩ := hrel
  cases gk with
  | zero =>
   obtain rfl : k = 6 := by omega
   have c := hR.out (w1.alloc (.cells cy 123))
   rw [show ((toU b % 64 : Nat) : Int) = s from hs.out.symm] at c
   go_wp2_with (fail)
   refine c.mono ?_
   rintro e w2 ⟨rfl, m2⟩
   go_wp2
   go_ret
   exact ⟨rfl, H0.trans m2⟩
  | succ g =>
   have hk : k < 6 := by omega
   have hk64 : k < 64 := by omega
   have hk' : (k : Int) < 64 := by omega
   have hk6 : (k : Int) < 6 := by omega
   obtain ⟨x, ex⟩ : ∃ x, (toU b).testBit k = x := ⟨_, rfl⟩
   have hcs : cy[k]'(by omega) = .bool x := by have h := get_of hy k (by omega); rw [ex] at h; exact (Array.getElem?_eq_some_iff.1 h).2
   have hpw : Hid (p + p = ((2 ^ (k + 1) : Nat) : Int)) := by show p + p = _; rw [hp.out, Nat.pow_succ]; omega
   have hpb : p ≤ 32 := by
    rw [hp.out]
    have : 2 ^ k ≤ 2 ^ 5 := Nat.pow_le_pow_right (by omega) (by omega)
    omega
   have hmod : toU b % 2 ^ (k + 1) = toU b % 2 ^ k + 2 ^ k * (toU b / 2 ^ k % 2) := Nat.mod_pow_succ
   have htb := Nat.testBit_eq_decide_div_mod_eq (x := toU b) (i := k)
   rw [ex] at htb
   cases x with
   | true =>
    have h1 : toU b / 2 ^ k % 2 = 1 := by simpa using htb.symm
    have hsn : Hid (s + p = ((toU b % 2 ^ (k + 1) : Nat) : Int)) := by
     show s + p = _
     rw [hmod, h1, hs.out, hp.out]; push_cast; omega
    have hsb : s + p < 64 := by
     rw [hsn.out]
     have h2 : toU b % 2 ^ (k + 1) < 2 ^ (k + 1) := Nat.mod_lt _ (Nat.pow_pos (by decide))
     have h3 : 2 ^ (k + 1) ≤ 2 ^ 6 := Nat.pow_le_pow_right (by omega) (by omega)
     omega
    clear hmod htb h1 ex
    go_wp2
    go_roundg g
    case measure => omega
    case rel => exact ⟨k + 1, s + p, p + p, by omega, hsn, hpw, by omega, by omega, by omega, by omega, rfl, rfl, by first | rfl | simp, rfl⟩
   | false =>
    have h1 : toU b / 2 ^ k % 2 = 0 := by
     have h2 : ¬ toU b / 2 ^ k % 2 = 1 := by simpa using htb.symm
     omega
    have hsn : Hid (s = ((toU b % 2 ^ (k + 1) : Nat) : Int)) := by
     show s = _
     rw [hmod, h1, hs.out]; simp
    clear hmod htb h1 ex
    go_wp2
    go_roundg g
    case measure => omega
    case rel => exact ⟨k + 1, s, p + p, by omega, hsn, hpw, by omega, by omega, by omega, by omega, rfl, rfl, by first | rfl | simp, rfl⟩

set_option maxHeartbeats 1000000 in
theorem ref_8 (a b : Int) (R : Int) (b0 : -9223372036854775808 ≤ b) (b1 : b ≤ 9223372036854775807)
  (hR : Hid (∀ w : World, Calls Try.prog 70 #[.int .i64 a, .int .i64 (-((toU b % 64 : Nat) : Int))] w fun e w' => e = .returned (.int .i64 R) ∧ More w w')) (w : World) :
  Calls Try.prog 55 #[.int .i64 8, .int .i64 a, .int .i64 b] w fun e w' => e = .returned (.int .i64 R) ∧ More w w' := by
 go_enter Try.func55, Try.ntmps55
 go_wp2_with (fail)
 refine (bits_cells b b0 b1 _).mono ?_
 rintro e w1 ⟨cy, rfl, hy, m1⟩
 go_wp2_with (refine wpList_store_row rfl 123 (.tmp 7) (.tmp 41) rfl _ _ rfl rfl 123 _ (heap_alloc_last _ _) (info_of hy) (size_of hy) (one_of hy) ?_; rw [World.setRow_alloc_new])
 have H0 := (m1.alloc cy 123)
 have hsz := (size_of hy).symm
 go_loopg [8, 9, 10] 6 (fun g sv pv i wr => ∃ (k : Nat) (s p : Int), k + g = 6 ∧ Hid (s = ((toU b % 2 ^ k : Nat) : Int)) ∧ Hid (p = ((2 ^ k : Nat) : Int)) ∧ 0 ≤ s ∧ s < 64 ∧ 0 ≤ p ∧ p ≤ 64 ∧ sv = .int .i64 s ∧ pv = .int .i64 p ∧ i = .int .i64 k ∧ wr = w1.alloc (.cells cy 123))
 case atStart => exact ⟨0, 0, 1, by omega, by show (0 : Int) = _; simp [Nat.mod_one], rfl, by omega, by omega, by omega, by omega, rfl, rfl, rfl, rfl⟩
 case round =>
  obtain ⟨k, s, p, hkg, hs, hp, s0, s1, p0, p1, rfl, rfl, rfl, rfl⟩ := hrel
  cases gk with
  | zero =>
   obtain rfl : k = 6 := by omega
   have c := hR.out (w1.alloc (.cells cy 123))
   rw [show ((toU b % 64 : Nat) : Int) = s from hs.out.symm] at c
   go_wp2_with (fail)
   refine c.mono ?_
   rintro e w2 ⟨rfl, m2⟩
   go_wp2
   go_ret
   exact ⟨rfl, H0.trans m2⟩
  | succ g =>
   have hk : k < 6 := by omega
   have hk64 : k < 64 := by omega
   have hk' : (k : Int) < 64 := by omega
   have hk6 : (k : Int) < 6 := by omega
   obtain ⟨x, ex⟩ : ∃ x, (toU b).testBit k = x := ⟨_, rfl⟩
   have hcs : cy[k]'(by omega) = .bool x := by have h := get_of hy k (by omega); rw [ex] at h; exact (Array.getElem?_eq_some_iff.1 h).2
   have hpw : Hid (p + p = ((2 ^ (k + 1) : Nat) : Int)) := by show p + p = _; rw [hp.out, Nat.pow_succ]; omega
   have hpb : p ≤ 32 := by
    rw [hp.out]
    have : 2 ^ k ≤ 2 ^ 5 := Nat.pow_le_pow_right (by omega) (by omega)
    omega
   have hmod : toU b % 2 ^ (k + 1) = toU b % 2 ^ k + 2 ^ k * (toU b / 2 ^ k % 2) := Nat.mod_pow_succ
   have htb := Nat.testBit_eq_decide_div_mod_eq (x := toU b) (i := k)
   rw [ex] at htb
   cases x with
   | true =>
    have h1 : toU b / 2 ^ k % 2 = 1 := by simpa using htb.symm
    have hsn : Hid (s + p = ((toU b % 2 ^ (k + 1) : Nat) : Int)) := by
     show s + p = _
     rw [hmod, h1, hs.out, hp.out]; push_cast; omega
    have hsb : s + p < 64 := by
     rw [hsn.out]
     have h2 : toU b % 2 ^ (k + 1) < 2 ^ (k + 1) := Nat.mod_lt _ (Nat.pow_pos (by decide))
     have h3 : 2 ^ (k + 1) ≤ 2 ^ 6 := Nat.pow_le_pow_right (by omega) (by omega)
     omega
    clear hmod htb h1 ex
    go_wp2
    go_roundg g
    case measure => omega
    case rel => exact ⟨k + 1, s + p, p + p, by omega, hsn, hpw, by omega, by omega, by omega, by omega, rfl, rfl, by first | rfl | simp, rfl⟩
   | false =>
    have h1 : toU b / 2 ^ k % 2 = 0 := by
     have h2 : ¬ toU b / 2 ^ k % 2 = 1 := by simpa using htb.symm
     omega
    have hsn : Hid (s = ((toU b % 2 ^ (k + 1) : Nat) : Int)) := by
     show s = _
     rw [hmod, h1, hs.out]; simp
    clear hmod htb h1 ex
    go_wp2
    go_roundg g
    case measure => omega
    case rel => exact ⟨k + 1, s, p + p, by omega, hsn, hpw, by omega, by omega, by omega, by omega, rfl, rfl, by first | rfl | simp, rfl⟩

theorem wrap_mod (n : Nat) : wrap64 ((n % 18446744073709551616 : Nat) : Int) = wrap64 (n : Int) := by unfold wrap64; omega
theorem wrap_back (a : Int) (a0 : -9223372036854775808 ≤ a) (a1 : a ≤ 9223372036854775807) : wrap64 ((toU a : Nat) : Int) = a := by rw [toU_cast]; unfold wrap64; omega
theorem wrap_nil : wrap64 ((0 : Nat) : Int) = 0 := by unfold wrap64; omega

theorem shift_up (a b : Int) (a0 : -9223372036854775808 ≤ a) (a1 : a ≤ 9223372036854775807) (w : World) :
  Calls Try.prog 70 #[.int .i64 a, .int .i64 (((toU b % 64 : Nat)) : Int)] w fun e w' => e = .returned (.int .i64 (wrap64 ((toU a * 2 ^ (toU b % 64) : Nat) : Int))) ∧ More w w' := by
 have hs : toU b % 64 < 64 := Nat.mod_lt _ (by decide)
 generalize toU b % 64 = s at *
 rw [← wrap_mod]
 refine shift_calls a (s : Int) _ a0 a1 (by omega) (by omega) (Nat.mod_lt _ (by decide)) ?_ w
 show ∀ k, _
 intro k hk
 have e : (18446744073709551616 : Nat) = 2 ^ 64 := by decide
 rw [e, Nat.testBit_mod_two_pow, Nat.testBit_mul_two_pow]
 by_cases h : s ≤ k
 ·have h1 : ((k : Int) - (s : Int)).toNat = k - s := by omega
  have h2 : (0 ≤ (k : Int) - (s : Int) ∧ (k : Int) - (s : Int) < 64) := by omega
  rw [h1]; simp [hk, h, h2]
 ·have h2 : ¬ (0 ≤ (k : Int) - (s : Int) ∧ (k : Int) - (s : Int) < 64) := by omega
  simp only [h, h2]; simp

theorem shift_down (a b : Int) (a0 : -9223372036854775808 ≤ a) (a1 : a ≤ 9223372036854775807) (w : World) :
  Calls Try.prog 70 #[.int .i64 a, .int .i64 (-(((toU b % 64 : Nat)) : Int))] w fun e w' => e = .returned (.int .i64 (wrap64 ((toU a / 2 ^ (toU b % 64) : Nat) : Int))) ∧ More w w' := by
 have hs : toU b % 64 < 64 := Nat.mod_lt _ (by decide)
 generalize toU b % 64 = s at *
 refine shift_calls a (-(s : Int)) _ a0 a1 (by omega) (by omega) (Nat.lt_of_le_of_lt (Nat.div_le_self _ _) (toU_lt a)) ?_ w
 show ∀ k, _
 intro k hk
 have h1 : ((k : Int) - -(s : Int)).toNat = k + s := by omega
 rw [Nat.testBit_div_two_pow, h1]
 by_cases h : k + s < 64
 ·rw [decide_eq_true (by omega), Bool.true_and]
 ·have h2 : ¬ (0 ≤ (k : Int) - -(s : Int) ∧ (k : Int) - -(s : Int) < 64) := by omega
  have h3 : (toU a).testBit (k + s) = false := Nat.testBit_lt_two_pow (Nat.lt_of_lt_of_le (toU_lt a) (by
   have : 2 ^ 64 ≤ 2 ^ (k + s) := Nat.pow_le_pow_right (by decide) (by omega)
   omega))
  rw [h3]; simp

/-- evenkeelref1.Op, whatever the operation. -/
theorem ref_op (op a b : Int) (a0 : -9223372036854775808 ≤ a) (a1 : a ≤ 9223372036854775807) (b0 : -9223372036854775808 ≤ b) (b1 : b ≤ 9223372036854775807) (w : World) :
  Calls Try.prog 55 #[.int .i64 op, .int .i64 a, .int .i64 b] w fun e w' => e = .returned (.int .i64 (opI op a b)) ∧ More w w' := by
 by_cases h : op < 1 ∨ 10 < op
 ·rw [show opI op a b = 0 by unfold opI; rw [if_neg (by omega), if_neg (by omega), if_neg (by omega), if_neg (by omega), if_neg (by omega), if_neg (by omega), if_neg (by omega), if_neg (by omega), if_neg (by omega), if_neg (by omega)]]
  exact ref_other op a b w h
 have hs : op = 1 ∨ op = 2 ∨ op = 3 ∨ op = 4 ∨ op = 5 ∨ op = 6 ∨ op = 7 ∨ op = 8 ∨ op = 9 ∨ op = 10 := by omega
 rcases hs with rfl | rfl | rfl | rfl | rfl | rfl | rfl | rfl | rfl | rfl
 ·rw [opI_1]; exact ref_1 a b w
 ·rw [opI_2]; exact ref_2 a b w
 ·rw [opI_3]; exact ref_3 a b w
 ·rw [opI_4]; exact ref_4 a b a0 a1 b0 b1 w
 ·rw [opI_5]; exact ref_5 a b a0 a1 b0 b1 w
 ·rw [opI_6]; exact ref_6 a b a0 a1 b0 b1 w
 ·rw [opI_7]; exact ref_7 a b _ b0 b1 (fun w => shift_up a b a0 a1 w) w
 ·rw [opI_8]; exact ref_8 a b _ b0 b1 (fun w => shift_down a b a0 a1 w) w
 ·by_cases hb : b = 0
  ·subst hb
   rw [opI_9, show toU 0 = 0 by unfold toU; omega, Nat.div_zero, wrap_nil]
   exact ref_9_zero a w
  ·rw [opI_9]; exact ref_9_more a b a0 a1 b0 b1 (by simp [hb]) w
 ·by_cases hb : b = 0
  ·subst hb
   rw [opI_10, show toU 0 = 0 by unfold toU; omega, Nat.mod_zero, wrap_back a a0 a1]
   exact ref_10_zero a w
  ·rw [opI_10]; exact ref_10_more a b a0 a1 b0 b1 (by simp [hb]) w

theorem rh_1 (a b : Int) (w : World) :
  Calls Try.prog 32 #[.int .i64 1, .int .i64 a, .int .i64 b] w fun e w' => e = .returned (.bool (a == b)) ∧ More w w' := by
 go_enter Try.func32, Try.ntmps32
 go_wp2
 go_ret
 exact ⟨rfl, More.refl _⟩
theorem rh_2 (a b : Int) (w : World) :
  Calls Try.prog 32 #[.int .i64 2, .int .i64 a, .int .i64 b] w fun e w' => e = .returned (.bool (a != b)) ∧ More w w' := by
 go_enter Try.func32, Try.ntmps32
 go_wp2
 go_ret
 exact ⟨rfl, More.refl _⟩
theorem rh_3 (a b : Int) (v : Bool) (hv : ∀ w : World, Calls Try.prog 54 #[.int .i64 a, .int .i64 b] w fun e w' => e = .returned (.bool v) ∧ w' = w) (w : World) :
  Calls Try.prog 32 #[.int .i64 3, .int .i64 a, .int .i64 b] w fun e w' => e = .returned (.bool v) ∧ More w w' := by
 go_enter Try.func32, Try.ntmps32
 go_wp2_with (fail)
 refine (hv w).mono ?_
 rintro e w' ⟨rfl, hw⟩
 rw [hw]
 go_wp2
 go_ret
 exact ⟨rfl, More.refl _⟩
theorem rh_4 (a b : Int) (v : Bool) (hv : ∀ w : World, Calls Try.prog 54 #[.int .i64 a, .int .i64 b] w fun e w' => e = .returned (.bool v) ∧ w' = w) (w : World) :
  Calls Try.prog 32 #[.int .i64 4, .int .i64 a, .int .i64 b] w fun e w' => e = .returned (.bool !v) ∧ More w w' := by
 go_enter Try.func32, Try.ntmps32
 go_wp2_with (fail)
 refine (hv w).mono ?_
 rintro e w' ⟨rfl, hw⟩
 rw [hw]
 go_wp2
 go_ret
 exact ⟨rfl, More.refl _⟩
theorem rh_other (c a b : Int) (w : World) (h1 : (c == 1) = false) (h2 : (c == 2) = false) (h3 : (c == 3) = false) (h4 : (c == 4) = false) :
  Calls Try.prog 32 #[.int .i64 c, .int .i64 a, .int .i64 b] w fun e w' => e = .returned (.bool false) ∧ More w w' := by
 go_enter Try.func32, Try.ntmps32
 go_wp2
 go_ret
 exact ⟨rfl, More.refl _⟩

/-- evenkeelref1.Holds, whatever the condition. -/
theorem ref_holds (c a b : Int) (a0 : -9223372036854775808 ≤ a) (a1 : a ≤ 9223372036854775807) (b0 : -9223372036854775808 ≤ b) (b1 : b ≤ 9223372036854775807) (w : World) :
  Calls Try.prog 32 #[.int .i64 c, .int .i64 a, .int .i64 b] w fun e w' => e = .returned (.bool (holdsI c a b)) ∧ More w w' := by
 by_cases h1 : c = 1
 ·subst h1
  rw [show holdsI 1 a b = (a == b) by simp only [holdsI]; rw [Bool.eq_iff_iff]; simp; unfold toU; omega]
  exact rh_1 a b w
 by_cases h2 : c = 2
 ·subst h2
  rw [show holdsI 2 a b = (a != b) by simp only [holdsI]; rw [Bool.eq_iff_iff]; simp; unfold toU; omega]
  exact rh_2 a b w
 by_cases h3 : c = 3
 ·subst h3
  rw [show holdsI 3 a b = decide (toU a < toU b) by simp [holdsI]]
  exact rh_3 a b _ (fun w => below_calls a b a0 a1 b0 b1 w) w
 by_cases h4 : c = 4
 ·subst h4
  rw [show holdsI 4 a b = !decide (toU a < toU b) by simp [holdsI]; rw [Bool.eq_iff_iff]; simp]
  exact rh_4 a b _ (fun w => below_calls a b a0 a1 b0 b1 w) w
 rw [show holdsI c a b = false by simp [holdsI, *]]
 exact rh_other c a b w (by simp [h1]) (by simp [h2]) (by simp [h3]) (by simp [h4])
theorem ref_put (op a b c n : Int) (w : World) :
  Calls Try.prog 31 #[.agg #[.int .i64 op, .int .i64 a, .int .i64 b, .int .i64 c, .int .i64 n]] w fun e w' => e = .returned (.int .i64 (putI ⟨op, a, b, c, n⟩)) ∧ More w w' := by
 by_cases h3 : op = 3
 ·subst h3
  go_enter Try.func31, Try.ntmps31
  go_wp2
  go_ret
  exact ⟨by simp [putI], (More.refl _).alloc _ _⟩
 by_cases h5 : op = 5
 ·subst h5
  go_enter Try.func31, Try.ntmps31
  go_wp2
  go_ret
  exact ⟨by simp [putI], (More.refl _).alloc _ _⟩
 by_cases h4 : op = 4
 ·subst h4
  go_enter Try.func31, Try.ntmps31
  go_wp2
  go_ret
  exact ⟨by simp [putI], (More.refl _).alloc _ _⟩
 by_cases h6 : op = 6
 ·subst h6
  go_enter Try.func31, Try.ntmps31
  go_wp2
  go_ret
  exact ⟨by simp [putI], (More.refl _).alloc _ _⟩
 obtain ⟨P, hP⟩ : ∃ P, putI ⟨op, a, b, c, n⟩ = P := ⟨_, rfl⟩
 have HP : Hid (P = -1) := (show P = -1 by rw [← hP]; unfold putI; dsimp only; rw [if_neg (by omega), if_neg (by omega)])
 rw [hP, HP.out]
 clear hP HP
 go_enter Try.func31, Try.ntmps31
 go_wp2
 go_ret
 exact ⟨rfl, (More.refl _).alloc _ _⟩

theorem ref_index_k (op a b c n : Int) (sv : Value) (h : op = 5 ∨ op = 6) (w : World) :
  Calls Try.prog 33 #[sv, .agg #[.int .i64 op, .int .i64 a, .int .i64 b, .int .i64 c, .int .i64 n]] w fun e w' => e = .returned (.int .i64 n) ∧ More w w' := by
 rcases h with rfl | rfl
 all_goals
  go_enter Try.func33, Try.ntmps33
  go_wp2
  go_ret
  exact ⟨rfl, (More.refl _).alloc _ _⟩

set_option maxHeartbeats 400000 in
theorem ref_index_r (op a b c n : Int) (g : Nat) {gc : Nat} (x : Int) (h5 : ¬ op = 5) (h6 : ¬ op = 6) (hb : 0 ≤ b) (hb' : b < 10) (w : World) (hx : w.cell? ⟨g, b.toNat, none⟩ = some (.int .i64 x)) :
  Calls Try.prog 33 #[.slice (some ⟨g, 0, none⟩) 10 gc, .agg #[.int .i64 op, .int .i64 a, .int .i64 b, .int .i64 c, .int .i64 n]] w fun e w' => e = .returned (.int .i64 (wrap64 (x + n))) ∧ More w w' := by
 obtain ⟨W, HW⟩ : ∃ W : World, Hid (W = w.alloc (.cells #[.int .i64 op, .int .i64 a, .int .i64 b, .int .i64 c, .int .i64 n] 59)) := ⟨_, rfl⟩
 have Hw : Hid (More w W) := HW.out ▸ (More.refl _).alloc _ _
 obtain ⟨S, HS⟩ : ∃ S : World → Prop, Hid (∀ w', S w' ↔ More W w') := ⟨fun w' => More W w', fun _ => Iff.rfl⟩
 have k0 : ∀ i : { w' // S w' }, i.val.cell? ⟨g, b.toNat, none⟩ = some (.int .i64 x) := fun i => ((HS.out _).1 i.property).cell (Hw.out.cell hx)
 have k2 : ∀ i : { w' // S w' }, i.val.cell? ⟨w.heap.size, 2, none⟩ = some (.int .i64 b) := fun i => ((HS.out _).1 i.property).cell (by rw [HW.out]; go_simp)
 have k4 : ∀ i : { w' // S w' }, i.val.cell? ⟨w.heap.size, 4, none⟩ = some (.int .i64 n) := fun i => ((HS.out _).1 i.property).cell (by rw [HW.out]; go_simp)
 have hne : Nonempty { w' // S w' } := ⟨⟨W, (HS.out _).2 (More.refl _)⟩⟩
 have hwr := wrapEq
 have t5 : (op == 5) = false := by simp [h5]
 have t6 : (op == 6) = false := by simp [h6]
 clear hx h5 h6
 go_enter Try.func33, Try.ntmps33
 go_wp2_with (fail)
 refine wp_region_ord (S := S) [(0, true), (1, true), (2, true), (3, true), (4, true), (5, true), (6, true), (7, true), (8, true)] (by kernel_rfl) (by kernel_rfl) (by kernel_rfl) ((HS.out _).2 (by rw [HW.out]; exact (More.refl _).drew)) ?_
 iterate 9 (refine wpOrd_take rfl (by kernel_rfl) (fun K hK => ?_); go_simp; refine hK _ _ ?_; clear hK K)
 refine wpOrd_done ?_
 clear k0 k2 k4 hne
 go_wp2
 go_ret
 exact ⟨rfl, ((More.refl _).alloc _ _).drew⟩

set_option maxHeartbeats 400000 in
theorem ref_base (ra : Option Addr) (rl rc : Nat) (ca : Option Addr) (cl cc : Nat) (c : Int) (rb ro : Nat) (log : Nat → Int) (sec : Nat → Bool) (w : World) (h0 : 0 ≤ c) (h1 : c < (rl : Int))
  (hra : 0 < rl → ra = some ⟨rb, ro, none⟩) (hr : RegsAt w rb ro rl log sec) (hok : RegionsOk rl log) :
  Calls Try.prog 34 #[.agg #[.slice ra rl rc, .slice ca cl cc], .int .i64 c] w fun e w' => e = .returned (.int .i64 (baseI log c.toNat)) ∧ More w w' := by
 obtain ⟨k0, rfl⟩ : ∃ k : Nat, c = k := ⟨c.toNat, by omega⟩
 have Hr : Hid (RegsAt w rb ro rl log sec ∧ RegionsOk rl log) := ⟨hr, hok⟩
 obtain rfl := hra (by omega)
 have hk0 : k0 < rl := by omega
 have h6 : rl ≤ 6 := hok.1
 obtain ⟨R, HR⟩ : ∃ R, Hid (baseI log k0 = R) := ⟨_, rfl⟩
 rw [show ((k0 : Int)).toNat = k0 by omega, HR.out]
 clear hra hr hok h0 h1
 go_enter Try.func34, Try.ntmps34
 go_wp2
 go_loopg [5, 6] k0 (fun g nv i wr => ∃ (k : Nat) (m : Int), k + g = k0 ∧ m = baseI log k ∧ (0 ≤ m ∧ m ≤ 64 * k) ∧ nv = .int .i64 m ∧ i = .int .i64 k ∧ More (w.alloc (.cells #[.slice (some ⟨rb, ro, none⟩) rl rc, .slice ca cl cc] 25)) wr)
 case atStart => exact ⟨0, 0, by omega, rfl, by omega, rfl, rfl, More.refl _⟩
 case round =>
  obtain ⟨k, m, hkg, hm, ⟨b0, b1⟩, rfl, rfl, mm⟩ := hrel
  have e0 : wr.cell? ⟨w.heap.size, 0, none⟩ = some (.slice (some ⟨rb, ro, none⟩) rl rc) := mm.cell (by go_simp)
  have e1 : wr.cell? ⟨w.heap.size, 1, none⟩ = some (.slice ca cl cc) := mm.cell (by go_simp)
  have Hm : Hid (m = baseI log k ∧ More (w.alloc (.cells #[.slice (some ⟨rb, ro, none⟩) rl rc, .slice ca cl cc] 25)) wr) := ⟨hm, mm⟩
  clear hm mm
  cases gk with
  | zero =>
   obtain rfl : k = k0 := by omega
   go_wp2
   go_ret
   exact ⟨congrArg (fun n => Ending.returned (.int .i64 n)) (Hm.out.1.trans HR.out), ((More.refl _).alloc _ _).trans Hm.out.2⟩
  | succ g =>
   have hk : k < rl := by omega
   have hk' : (k : Int) < (k0 : Int) := by omega
   have hkr : (k : Int) < (rl : Int) := by omega
   have hk1 : (0 : Int) ≤ (k : Int) := by omega
   have mw : More w wr := ((More.refl _).alloc _ _).trans Hm.out.2
   have q0 := ((Hr.out.1.more mw) k hk).1
   have q1 := ((Hr.out.1.more mw) k hk).2
   clear mw
   have Hlog : Hid (0 ≤ log k ∧ log k ≤ 6) := Hr.out.2.2 k hk
   obtain ⟨lk, hlk⟩ : ∃ x, log k = x := ⟨_, rfl⟩
   rw [hlk] at q0 Hlog
   have Hlk : Hid (log k = lk) := hlk
   clear hlk
   go_wp2_with (fail)
   obtain ⟨nw, hnw⟩ : ∃ x, wordsI lk = x := ⟨_, rfl⟩
   refine (ref_words lk Hlog.out.1 Hlog.out.2 (sec k) _).mono ?_
   rw [hnw]
   have hnb : 1 ≤ nw ∧ nw ≤ 64 := by
    rw [← hnw]
    exact two_pow_le (k := lk.toNat) (by have := Hlog.out; omega)
   have Hnw : Hid (wordsI (log k) = nw) := by rw [Hlk.out]; exact hnw
   clear hnw q0 q1
   rintro e w2 ⟨rfl, m2⟩
   have Hm2 : Hid (More (w.alloc (.cells #[.slice (some ⟨rb, ro, none⟩) rl rc, .slice ca cl cc] 25)) w2) := Hm.out.2.trans m2
   clear m2 e0 e1
   go_wp2
   go_roundg g
   case measure => omega
   case rel =>
    refine ⟨k + 1, m + nw, by omega, by rw [baseI, ← Hm.out.1, Hnw.out], by push_cast; omega, ?_, by first | rfl | simp, Hm2.out⟩
    first | rfl | (simp; unfold wrap64; omega)

set_option maxHeartbeats 400000 in
theorem reg_1 (a b c n : Int) (g : Nat) {gc : Nat} (r : Nat → Int) (w : World) (hr : RegsR w g r) (a0 : 0 ≤ a) (a1 : a < 10) :
  Calls Try.prog 35 #[.slice (some ⟨g, 0, none⟩) 10 gc, .agg #[.int .i64 1, .int .i64 a, .int .i64 b, .int .i64 c, .int .i64 n]] w fun e w' => e = .returned (.slice none 0 0) ∧ RegsR w' g (setR r a n) ∧ w.grownBy w' (some g) := by
 have Hr : Hid (RegsR w g r) := hr
 have hrW : RegsR (w.alloc (.cells #[.int .i64 1, .int .i64 a, .int .i64 b, .int .i64 c, .int .i64 n] 59)) g r := hr.alloc _ _
 have hg : g < w.heap.size := cell_block (hr 0 (by omega)).1
 have ca := (hr a.toNat (by omega)).1
 have fa := (hr a.toNat (by omega)).2
 clear hr hrW
 go_enter Try.func35, Try.ntmps35
 go_wp2
 go_ret
 exact ⟨rfl, (by repeat (first | exact Hr.out | apply RegsR.drew | apply RegsR.alloc | apply RegsR.set)), (by repeat (first | exact grown_refl _ _ | apply gr_drew | apply gr_alloc | apply gr_set))⟩

set_option maxHeartbeats 400000 in
theorem reg_12 (a b c n : Int) (g : Nat) {gc : Nat} (r : Nat → Int) (w : World) (hr : RegsR w g r) :
  Calls Try.prog 35 #[.slice (some ⟨g, 0, none⟩) 10 gc, .agg #[.int .i64 12, .int .i64 a, .int .i64 b, .int .i64 c, .int .i64 n]] w fun e w' => e = .returned (.slice none 0 0) ∧ RegsR w' g (r) ∧ w.grownBy w' (some g) := by
 have Hr : Hid (RegsR w g r) := hr
 have hrW : RegsR (w.alloc (.cells #[.int .i64 12, .int .i64 a, .int .i64 b, .int .i64 c, .int .i64 n] 59)) g r := hr.alloc _ _
 have hg : g < w.heap.size := cell_block (hr 0 (by omega)).1
 clear hr hrW
 go_enter Try.func35, Try.ntmps35
 go_wp2
 go_ret
 exact ⟨rfl, (by repeat (first | exact Hr.out | apply RegsR.drew | apply RegsR.alloc | apply RegsR.set)), (by repeat (first | exact grown_refl _ _ | apply gr_drew | apply gr_alloc | apply gr_set))⟩

set_option maxHeartbeats 400000 in
theorem reg_2 (a b c n : Int) (g : Nat) {gc : Nat} (r : Nat → Int) (w : World) (hr : RegsR w g r) (a0 : 0 ≤ a) (a1 : a < 10) (b0 : 0 ≤ b) (b1 : b < 10) :
  Calls Try.prog 35 #[.slice (some ⟨g, 0, none⟩) 10 gc, .agg #[.int .i64 2, .int .i64 a, .int .i64 b, .int .i64 c, .int .i64 n]] w fun e w' => e = .returned (.slice none 0 0) ∧ RegsR w' g (setR r a (r b.toNat)) ∧ w.grownBy w' (some g) := by
 have Hr : Hid (RegsR w g r) := hr
 have hrW : RegsR (w.alloc (.cells #[.int .i64 2, .int .i64 a, .int .i64 b, .int .i64 c, .int .i64 n] 59)) g r := hr.alloc _ _
 have hg : g < w.heap.size := cell_block (hr 0 (by omega)).1
 have ca := (hr a.toNat (by omega)).1
 have fa := (hr a.toNat (by omega)).2
 have cb := (hr b.toNat (by omega)).1
 have fb := (hr b.toNat (by omega)).2
 obtain ⟨S, HS⟩ : ∃ S : World → Prop, Hid (∀ w', S w' ↔ w'.cell? ⟨w.heap.size, 1, none⟩ = some (.int .i64 a) ∧ w'.cell? ⟨w.heap.size, 2, none⟩ = some (.int .i64 b)) := ⟨_, fun _ => Iff.rfl⟩
 have k1 : ∀ i : { w' // S w' }, i.val.cell? ⟨w.heap.size, 1, none⟩ = some (.int .i64 a) := fun i => ((HS.out _).1 i.property).1
 have k2 : ∀ i : { w' // S w' }, i.val.cell? ⟨w.heap.size, 2, none⟩ = some (.int .i64 b) := fun i => ((HS.out _).1 i.property).2
 have hne : Nonempty { w' // S w' } := ⟨⟨w.alloc (.cells #[.int .i64 2, .int .i64 a, .int .i64 b, .int .i64 c, .int .i64 n] 59), (HS.out _).2 (by go_simp)⟩⟩
 clear hr hrW
 go_enter Try.func35, Try.ntmps35
 go_wp2_with (fail)
 refine wp_region_ord (S := S) [(0, true), (1, true), (2, true), (3, true), (4, true), (5, true), (6, true), (7, false), (8, true), (9, false)] (by kernel_rfl) (by kernel_rfl) (by kernel_rfl) ((HS.out _).2 (by go_simp)) ?_
 iterate 7 (refine wpOrd_take rfl (by kernel_rfl) (fun K hK => ?_); go_simp; refine hK _ _ ?_; clear hK K)
 refine wpOrd_busy rfl (by kernel_rfl) (fun K hK => ?_); go_simp
 refine hK _ _ ((HS.out _).2 (by go_simp)) ?_; clear hK K
 refine wpOrd_take rfl (by kernel_rfl) (fun K hK => ?_); go_simp; refine hK _ _ ?_; clear hK K
 refine wpOrd_busy rfl (by kernel_rfl) (fun K hK => ?_); go_simp
 refine hK _ _ ((HS.out _).2 (by go_simp)) ?_; clear hK K
 refine wpOrd_done ?_
 clear k1 k2 hne
 go_wp2
 go_ret
 exact ⟨rfl, (by repeat (first | exact Hr.out | apply RegsR.drew | apply RegsR.alloc | apply RegsR.set)), (by repeat (first | exact grown_refl _ _ | apply gr_drew | apply gr_alloc | apply gr_set))⟩

set_option maxHeartbeats 400000 in
theorem reg_10 (a b c n : Int) (g : Nat) {gc : Nat} (r : Nat → Int) (w : World) (hr : RegsR w g r) (a0 : 0 ≤ a) (a1 : a < 10) (b0 : 0 ≤ b) (b1 : b < 10) :
  Calls Try.prog 35 #[.slice (some ⟨g, 0, none⟩) 10 gc, .agg #[.int .i64 10, .int .i64 a, .int .i64 b, .int .i64 c, .int .i64 n]] w fun e w' => e = .returned (.slice none 0 0) ∧ RegsR w' g (setR r a (wrap64 (r b.toNat + n))) ∧ w.grownBy w' (some g) := by
 have Hr : Hid (RegsR w g r) := hr
 have hrW : RegsR (w.alloc (.cells #[.int .i64 10, .int .i64 a, .int .i64 b, .int .i64 c, .int .i64 n] 59)) g r := hr.alloc _ _
 have hg : g < w.heap.size := cell_block (hr 0 (by omega)).1
 have ca := (hr a.toNat (by omega)).1
 have fa := (hr a.toNat (by omega)).2
 have cb := (hr b.toNat (by omega)).1
 have fb := (hr b.toNat (by omega)).2
 obtain ⟨S, HS⟩ : ∃ S : World → Prop, Hid (∀ w', S w' ↔ w'.cell? ⟨w.heap.size, 1, none⟩ = some (.int .i64 a) ∧ w'.cell? ⟨w.heap.size, 2, none⟩ = some (.int .i64 b) ∧ w'.cell? ⟨w.heap.size, 4, none⟩ = some (.int .i64 n)) := ⟨_, fun _ => Iff.rfl⟩
 have k1 : ∀ i : { w' // S w' }, i.val.cell? ⟨w.heap.size, 1, none⟩ = some (.int .i64 a) := fun i => ((HS.out _).1 i.property).1
 have k2 : ∀ i : { w' // S w' }, i.val.cell? ⟨w.heap.size, 2, none⟩ = some (.int .i64 b) := fun i => ((HS.out _).1 i.property).2.1
 have k4 : ∀ i : { w' // S w' }, i.val.cell? ⟨w.heap.size, 4, none⟩ = some (.int .i64 n) := fun i => ((HS.out _).1 i.property).2.2
 have hne : Nonempty { w' // S w' } := ⟨⟨w.alloc (.cells #[.int .i64 10, .int .i64 a, .int .i64 b, .int .i64 c, .int .i64 n] 59), (HS.out _).2 (by go_simp)⟩⟩
 have hwr := wrapEq
 clear hr hrW
 go_enter Try.func35, Try.ntmps35
 go_wp2_with (fail)
 refine wp_region_ord (S := S) [(0, true), (1, true), (2, true), (3, true), (4, true), (5, true), (6, true), (8, true), (9, true), (7, false), (10, true), (11, true), (12, false)] (by kernel_rfl) (by kernel_rfl) (by kernel_rfl) ((HS.out _).2 (by go_simp)) ?_
 iterate 9 (refine wpOrd_take rfl (by kernel_rfl) (fun K hK => ?_); go_simp; refine hK _ _ ?_; clear hK K)
 refine wpOrd_busy rfl (by kernel_rfl) (fun K hK => ?_); go_simp
 refine hK _ _ ((HS.out _).2 (by go_simp)) ?_; clear hK K
 iterate 2 (refine wpOrd_take rfl (by kernel_rfl) (fun K hK => ?_); go_simp; refine hK _ _ ?_; clear hK K)
 refine wpOrd_busy rfl (by kernel_rfl) (fun K hK => ?_); go_simp
 refine hK _ _ ((HS.out _).2 (by go_simp)) ?_; clear hK K
 refine wpOrd_done ?_
 clear k1 k2 k4 hne
 go_wp2
 go_ret
 exact ⟨rfl, (by repeat (first | exact Hr.out | apply RegsR.drew | apply RegsR.alloc | apply RegsR.set)), (by repeat (first | exact grown_refl _ _ | apply gr_drew | apply gr_alloc | apply gr_set))⟩

set_option maxHeartbeats 1000000 in
theorem reg_11_lo (a b c n : Int) (g : Nat) {gc : Nat} (r : Nat → Int) (x : Int) (w : World) (hr : RegsR w g r) (hx : r a.toNat = x) (a0 : 0 ≤ a) (a1 : a < 10) (hlo : x < 0) :
  Calls Try.prog 35 #[.slice (some ⟨g, 0, none⟩) 10 gc, .agg #[.int .i64 11, .int .i64 a, .int .i64 b, .int .i64 c, .int .i64 n]] w fun e w' => e = .returned (.slice none 0 0) ∧ RegsR w' g (setR r a 0) ∧ w.grownBy w' (some g) := by
 have Hr : Hid (RegsR w g r) := hr
 have hrW : RegsR (w.alloc (.cells #[.int .i64 11, .int .i64 a, .int .i64 b, .int .i64 c, .int .i64 n] 59)) g r := hr.alloc _ _
 have hg : g < w.heap.size := cell_block (hr 0 (by omega)).1
 have ca := (hr a.toNat (by omega)).1
 have fa := (hr a.toNat (by omega)).2
 rw [hx] at ca
 obtain ⟨S, HS⟩ : ∃ S : World → Prop, Hid (∀ w', S w' ↔ w'.cell? ⟨w.heap.size, 1, none⟩ = some (.int .i64 a) ∧ w'.cell? ⟨w.heap.size, 4, none⟩ = some (.int .i64 n) ∧ w'.cell? ⟨g, a.toNat, none⟩ = some (.int .i64 x)) := ⟨_, fun _ => Iff.rfl⟩
 have k1 : ∀ i : { w' // S w' }, i.val.cell? ⟨w.heap.size, 1, none⟩ = some (.int .i64 a) := fun i => ((HS.out _).1 i.property).1
 have k4 : ∀ i : { w' // S w' }, i.val.cell? ⟨w.heap.size, 4, none⟩ = some (.int .i64 n) := fun i => ((HS.out _).1 i.property).2.1
 have kx : ∀ i : { w' // S w' }, i.val.cell? ⟨g, a.toNat, none⟩ = some (.int .i64 x) := fun i => ((HS.out _).1 i.property).2.2
 have hne : Nonempty { w' // S w' } := ⟨⟨w.alloc (.cells #[.int .i64 11, .int .i64 a, .int .i64 b, .int .i64 c, .int .i64 n] 59), (HS.out _).2 (by go_simp)⟩⟩
 clear hr hrW hx
 go_enter Try.func35, Try.ntmps35
 go_wp2_with (fail)
 refine wp_region_ord (S := S) [(0, true), (1, true), (2, true), (3, true), (4, true), (5, true), (6, true), (7, true), (8, true), (9, true), (10, true), (11, true), (12, true), (13, true), (14, true), (15, true)] (by kernel_rfl) (by kernel_rfl) (by kernel_rfl) ((HS.out _).2 (by go_simp)) ?_
 iterate 6 (refine wpOrd_take rfl (by kernel_rfl) (fun K hK => ?_); go_simp; refine hK _ _ ?_; clear hK K)
 refine wpOrd_move rfl rfl (by kernel_rfl) (fun K hK => ?_); go_simp; refine hK _ _ ?_; clear hK K
 iterate 8 (refine wpOrd_skip rfl ((HS.out _).2 (by go_simp)) (by kernel_rfl) (by kernel_rfl) ?_)
 refine wpOrd_pickT rfl rfl (by kernel_rfl) rfl (fun K hK => ?_); go_simp; refine hK _ _ ?_; clear hK K
 refine wpOrd_done ?_
 clear k1 k4 kx hne
 go_wp2
 go_ret
 exact ⟨rfl, (by repeat (first | exact Hr.out | apply RegsR.drew | apply RegsR.alloc | apply RegsR.set)), (by repeat (first | exact grown_refl _ _ | apply gr_drew | apply gr_alloc | apply gr_set))⟩

set_option maxHeartbeats 1000000 in
theorem reg_11_hi (a b c n : Int) (g : Nat) {gc : Nat} (r : Nat → Int) (x : Int) (w : World) (hr : RegsR w g r) (hx : r a.toNat = x) (a0 : 0 ≤ a) (a1 : a < 10) (hlo : ¬ x < 0) (hhi : n ≤ x) :
  Calls Try.prog 35 #[.slice (some ⟨g, 0, none⟩) 10 gc, .agg #[.int .i64 11, .int .i64 a, .int .i64 b, .int .i64 c, .int .i64 n]] w fun e w' => e = .returned (.slice none 0 0) ∧ RegsR w' g (setR r a 0) ∧ w.grownBy w' (some g) := by
 have Hr : Hid (RegsR w g r) := hr
 have hrW : RegsR (w.alloc (.cells #[.int .i64 11, .int .i64 a, .int .i64 b, .int .i64 c, .int .i64 n] 59)) g r := hr.alloc _ _
 have hg : g < w.heap.size := cell_block (hr 0 (by omega)).1
 have ca := (hr a.toNat (by omega)).1
 have fa := (hr a.toNat (by omega)).2
 rw [hx] at ca
 obtain ⟨S, HS⟩ : ∃ S : World → Prop, Hid (∀ w', S w' ↔ w'.cell? ⟨w.heap.size, 1, none⟩ = some (.int .i64 a) ∧ w'.cell? ⟨w.heap.size, 4, none⟩ = some (.int .i64 n) ∧ w'.cell? ⟨g, a.toNat, none⟩ = some (.int .i64 x)) := ⟨_, fun _ => Iff.rfl⟩
 have k1 : ∀ i : { w' // S w' }, i.val.cell? ⟨w.heap.size, 1, none⟩ = some (.int .i64 a) := fun i => ((HS.out _).1 i.property).1
 have k4 : ∀ i : { w' // S w' }, i.val.cell? ⟨w.heap.size, 4, none⟩ = some (.int .i64 n) := fun i => ((HS.out _).1 i.property).2.1
 have kx : ∀ i : { w' // S w' }, i.val.cell? ⟨g, a.toNat, none⟩ = some (.int .i64 x) := fun i => ((HS.out _).1 i.property).2.2
 have hne : Nonempty { w' // S w' } := ⟨⟨w.alloc (.cells #[.int .i64 11, .int .i64 a, .int .i64 b, .int .i64 c, .int .i64 n] 59), (HS.out _).2 (by go_simp)⟩⟩
 clear hr hrW hx
 go_enter Try.func35, Try.ntmps35
 go_wp2_with (fail)
 refine wp_region_ord (S := S) [(0, true), (1, true), (2, true), (3, true), (4, true), (5, true), (6, true), (7, true), (8, true), (9, true), (10, true), (11, true), (12, true), (13, true), (14, true), (15, true)] (by kernel_rfl) (by kernel_rfl) (by kernel_rfl) ((HS.out _).2 (by go_simp)) ?_
 have hd0 : decide (x < 0) = false := by simp; omega
 iterate 6 (refine wpOrd_take rfl (by kernel_rfl) (fun K hK => ?_); go_simp; refine hK _ _ ?_; clear hK K)
 refine wpOrd_move rfl rfl (by kernel_rfl) (fun K hK => ?_); go_simp; refine hK _ _ ?_; clear hK K
 iterate 8 (refine wpOrd_take rfl (by kernel_rfl) (fun K hK => ?_); go_simp; refine hK _ _ ?_; clear hK K)
 refine wpOrd_pickF rfl rfl (by kernel_rfl) rfl (fun K hK => ?_); go_simp; refine hK _ _ ?_; clear hK K
 refine wpOrd_done ?_
 clear k1 k4 kx hne
 go_wp2
 go_ret
 exact ⟨rfl, (by repeat (first | exact Hr.out | apply RegsR.drew | apply RegsR.alloc | apply RegsR.set)), (by repeat (first | exact grown_refl _ _ | apply gr_drew | apply gr_alloc | apply gr_set))⟩

set_option maxHeartbeats 1000000 in
theorem reg_11_in (a b c n : Int) (g : Nat) {gc : Nat} (r : Nat → Int) (x : Int) (w : World) (hr : RegsR w g r) (hx : r a.toNat = x) (a0 : 0 ≤ a) (a1 : a < 10) (hlo : ¬ x < 0) (hhi : x < n) :
  Calls Try.prog 35 #[.slice (some ⟨g, 0, none⟩) 10 gc, .agg #[.int .i64 11, .int .i64 a, .int .i64 b, .int .i64 c, .int .i64 n]] w fun e w' => e = .returned (.slice none 0 0) ∧ RegsR w' g (r) ∧ w.grownBy w' (some g) := by
 have Hr : Hid (RegsR w g r) := hr
 have hrW : RegsR (w.alloc (.cells #[.int .i64 11, .int .i64 a, .int .i64 b, .int .i64 c, .int .i64 n] 59)) g r := hr.alloc _ _
 have hg : g < w.heap.size := cell_block (hr 0 (by omega)).1
 have ca := (hr a.toNat (by omega)).1
 have fa := (hr a.toNat (by omega)).2
 rw [hx] at ca
 obtain ⟨S, HS⟩ : ∃ S : World → Prop, Hid (∀ w', S w' ↔ w'.cell? ⟨w.heap.size, 1, none⟩ = some (.int .i64 a) ∧ w'.cell? ⟨w.heap.size, 4, none⟩ = some (.int .i64 n) ∧ w'.cell? ⟨g, a.toNat, none⟩ = some (.int .i64 x)) := ⟨_, fun _ => Iff.rfl⟩
 have k1 : ∀ i : { w' // S w' }, i.val.cell? ⟨w.heap.size, 1, none⟩ = some (.int .i64 a) := fun i => ((HS.out _).1 i.property).1
 have k4 : ∀ i : { w' // S w' }, i.val.cell? ⟨w.heap.size, 4, none⟩ = some (.int .i64 n) := fun i => ((HS.out _).1 i.property).2.1
 have kx : ∀ i : { w' // S w' }, i.val.cell? ⟨g, a.toNat, none⟩ = some (.int .i64 x) := fun i => ((HS.out _).1 i.property).2.2
 have hne : Nonempty { w' // S w' } := ⟨⟨w.alloc (.cells #[.int .i64 11, .int .i64 a, .int .i64 b, .int .i64 c, .int .i64 n] 59), (HS.out _).2 (by go_simp)⟩⟩
 clear hr hrW hx
 go_enter Try.func35, Try.ntmps35
 go_wp2_with (fail)
 refine wp_region_ord (S := S) [(0, true), (1, true), (2, true), (3, true), (4, true), (5, true), (6, true), (7, true), (8, true), (9, true), (10, true), (11, true), (12, true), (13, true), (14, true), (15, true)] (by kernel_rfl) (by kernel_rfl) (by kernel_rfl) ((HS.out _).2 (by go_simp)) ?_
 have hd0 : decide (x < 0) = false := by simp; omega
 iterate 6 (refine wpOrd_take rfl (by kernel_rfl) (fun K hK => ?_); go_simp; refine hK _ _ ?_; clear hK K)
 refine wpOrd_move rfl rfl (by kernel_rfl) (fun K hK => ?_); go_simp; refine hK _ _ ?_; clear hK K
 iterate 7 (refine wpOrd_take rfl (by kernel_rfl) (fun K hK => ?_); go_simp; refine hK _ _ ?_; clear hK K)
 have hd : decide (n ≤ x) = false := by simp; omega
 iterate 1 (refine wpOrd_take rfl (by kernel_rfl) (fun K hK => ?_); go_simp; refine hK _ _ ?_; clear hK K)
 refine wpOrd_pickF rfl rfl (by kernel_rfl) rfl (fun K hK => ?_); go_simp; refine hK _ _ ?_; clear hK K
 refine wpOrd_done ?_
 clear k1 k4 kx hne
 go_wp2
 go_ret
 exact ⟨rfl, (by repeat (first | exact Hr.out | apply RegsR.drew | apply RegsR.alloc | apply RegsR.set)), (by repeat (first | exact grown_refl _ _ | apply gr_drew | apply gr_alloc | apply gr_set))⟩

set_option maxHeartbeats 1000000 in
theorem reg_op_no (op a b c n : Int) (g : Nat) {gc : Nat} (r : Nat → Int) (w : World) (hr : RegsR w g r) (o0 : 21 ≤ op) (o1 : op ≤ 30) (a0 : 0 ≤ a) (a1 : a < 10) (b0 : 0 ≤ b) (b1 : b < 10) (c0 : 0 ≤ c) (c1 : c < 10) (h29 : ¬ op = 29) (h30 : ¬ op = 30) (hb : B64 (r b.toNat)) (hc : B64 (r c.toNat)) :
  Calls Try.prog 35 #[.slice (some ⟨g, 0, none⟩) 10 gc, .agg #[.int .i64 op, .int .i64 a, .int .i64 b, .int .i64 c, .int .i64 n]] w fun e w' => e = .returned (.slice none 0 0) ∧ RegsR w' g (setR r a (opI (op - 20) (r b.toNat) (r c.toNat))) ∧ w.grownBy w' (some g) := by
 have Hr : Hid (RegsR w g r) := hr
 have hrW : RegsR (w.alloc (.cells #[.int .i64 op, .int .i64 a, .int .i64 b, .int .i64 c, .int .i64 n] 59)) g r := hr.alloc _ _
 have hg : g < w.heap.size := cell_block (hr 0 (by omega)).1
 have ca := (hr a.toNat (by omega)).1
 have fa := (hr a.toNat (by omega)).2
 have cb := (hr b.toNat (by omega)).1
 have fb := (hr b.toNat (by omega)).2
 have cx := (hr c.toNat (by omega)).1
 have fx := (hr c.toNat (by omega)).2
 obtain ⟨S, HS⟩ : ∃ S : World → Prop, Hid (∀ w', S w' ↔ w'.cell? ⟨w.heap.size, 0, none⟩ = some (.int .i64 op) ∧ w'.cell? ⟨w.heap.size, 1, none⟩ = some (.int .i64 a)) := ⟨_, fun _ => Iff.rfl⟩
 have k0 : ∀ i : { w' // S w' }, i.val.cell? ⟨w.heap.size, 0, none⟩ = some (.int .i64 op) := fun i => ((HS.out _).1 i.property).1
 have k1 : ∀ i : { w' // S w' }, i.val.cell? ⟨w.heap.size, 1, none⟩ = some (.int .i64 a) := fun i => ((HS.out _).1 i.property).2
 have hne : Nonempty { w' // S w' } := ⟨⟨w.alloc (.cells #[.int .i64 op, .int .i64 a, .int .i64 b, .int .i64 c, .int .i64 n] 59), (HS.out _).2 (by go_simp)⟩⟩
 have hwr := wrapEq
 have Hop : Hid (∀ w : World, Calls Try.prog 55 #[.int .i64 (op - 20), .int .i64 (r b.toNat), .int .i64 (r c.toNat)] w fun e w' => e = .returned (.int .i64 (opI (op - 20) (r b.toNat) (r c.toNat))) ∧ More w w') := fun w => ref_op _ _ _ hb.1 hb.2 hc.1 hc.2 w
 obtain ⟨v, hv⟩ : ∃ v, opI (op - 20) (r b.toNat) (r c.toNat) = v := ⟨_, rfl⟩
 rw [hv] at Hop
 rw [hv]
 have hs : wrap64 (op - 20) = op - 20 := by unfold wrap64; omega
 obtain ⟨q, hq⟩ : ∃ q, op - 20 = q := ⟨_, rfl⟩
 rw [hq] at Hop hs
 have t29 : (op == 29) = false := by simp [h29]
 have t30 : (op == 30) = false := by simp [h30]
 clear h29 h30
 clear hr hrW hb hc hv
 go_enter Try.func35, Try.ntmps35
 go_wp2_with (fail)
 refine wp_region_ord (S := S) [(0, true), (1, true), (2, true), (3, true), (4, true), (5, true), (6, true), (7, true), (8, false), (9, true), (10, false)] (by kernel_rfl) (by kernel_rfl) (by kernel_rfl) ((HS.out _).2 (by go_simp)) ?_
 iterate 8 (refine wpOrd_take rfl (by kernel_rfl) (fun K hK => ?_); go_simp; refine hK _ _ ?_; clear hK K)
 refine wpOrd_busy rfl (by kernel_rfl) (fun K hK => ?_); go_simp
 refine (Hop.out _).mono ?_
 rintro e w1 ⟨rfl, m1⟩
 have e0 : w1.cell? ⟨w.heap.size, 0, none⟩ = some (.int .i64 op) := m1.cell (by go_simp)
 have e1 : w1.cell? ⟨w.heap.size, 1, none⟩ = some (.int .i64 a) := m1.cell (by go_simp)
 have Hr1 : Hid (RegsR w1 g r) := ((Hr.out.alloc _ _).drew).more m1
 have c1a := (Hr1.out a.toNat (by omega)).1
 have f1a := (Hr1.out a.toNat (by omega)).2
 have Hg1 : Hid (w.grownBy w1 (some g)) := gr_more (gr_drew (gr_alloc (grown_refl _ _) _)) m1
 clear m1
 go_simp
 refine hK _ _ ((HS.out _).2 ⟨e0, e1⟩) ?_; clear hK K
 refine wpOrd_take rfl (by kernel_rfl) (fun K hK => ?_); go_simp; refine hK _ _ ?_; clear hK K
 refine wpOrd_busy rfl (by kernel_rfl) (fun K hK => ?_); go_simp
 have e0' : (w1.setCell ⟨g, a.toNat, none⟩ (.int .i64 v)).cell? ⟨w.heap.size, 0, none⟩ = some (.int .i64 op) := by rw [World.cell?_setCell_other _ _ _ _ (by simp <;> omega)]; exact e0
 have e1' : (w1.setCell ⟨g, a.toNat, none⟩ (.int .i64 v)).cell? ⟨w.heap.size, 1, none⟩ = some (.int .i64 a) := by rw [World.cell?_setCell_other _ _ _ _ (by simp <;> omega)]; exact e1
 refine hK _ _ ((HS.out _).2 ⟨e0', e1'⟩) ?_; clear hK K
 refine wpOrd_done ?_
 have Hr2 : Hid (RegsR (w1.setCell ⟨g, a.toNat, none⟩ (.int .i64 v)) g (setR r a v)) := Hr1.out.set a v
 have Hg2 : Hid (w.grownBy (w1.setCell ⟨g, a.toNat, none⟩ (.int .i64 v)) (some g)) := gr_set Hg1.out _ _
 obtain ⟨w3, hw3⟩ : ∃ w3, w1.setCell ⟨g, a.toNat, none⟩ (.int .i64 v) = w3 := ⟨_, rfl⟩
 rw [hw3] at e0' Hr2 Hg2 ⊢
 clear hw3 k0 k1 hne ca fa cb fb cx fx c1a f1a e0 e1 e1' hwr
 go_wp2
 go_ret
 exact ⟨rfl, Hr2.out, Hg2.out⟩

set_option maxHeartbeats 1000000 in
theorem reg_op_div (op a b c n : Int) (g : Nat) {gc : Nat} (r : Nat → Int) (w : World) (hr : RegsR w g r) (o0 : 21 ≤ op) (o1 : op ≤ 30) (a0 : 0 ≤ a) (a1 : a < 10) (b0 : 0 ≤ b) (b1 : b < 10) (c0 : 0 ≤ c) (c1 : c < 10) (h : op = 29) (hb : B64 (r b.toNat)) (hc : B64 (r c.toNat)) :
  Calls Try.prog 35 #[.slice (some ⟨g, 0, none⟩) 10 gc, .agg #[.int .i64 op, .int .i64 a, .int .i64 b, .int .i64 c, .int .i64 n]] w fun e w' => ∃ sv, e = .returned sv ∧ SeenAt w' sv ([⟨3, r b.toNat, r c.toNat⟩]) ∧ RegsR w' g (setR r a (opI (op - 20) (r b.toNat) (r c.toNat))) ∧ w.grownBy w' (some g) := by
 have Hr : Hid (RegsR w g r) := hr
 have hrW : RegsR (w.alloc (.cells #[.int .i64 op, .int .i64 a, .int .i64 b, .int .i64 c, .int .i64 n] 59)) g r := hr.alloc _ _
 have hg : g < w.heap.size := cell_block (hr 0 (by omega)).1
 have ca := (hr a.toNat (by omega)).1
 have fa := (hr a.toNat (by omega)).2
 have cb := (hr b.toNat (by omega)).1
 have fb := (hr b.toNat (by omega)).2
 have cx := (hr c.toNat (by omega)).1
 have fx := (hr c.toNat (by omega)).2
 obtain ⟨S, HS⟩ : ∃ S : World → Prop, Hid (∀ w', S w' ↔ w'.cell? ⟨w.heap.size, 0, none⟩ = some (.int .i64 op) ∧ w'.cell? ⟨w.heap.size, 1, none⟩ = some (.int .i64 a)) := ⟨_, fun _ => Iff.rfl⟩
 have k0 : ∀ i : { w' // S w' }, i.val.cell? ⟨w.heap.size, 0, none⟩ = some (.int .i64 op) := fun i => ((HS.out _).1 i.property).1
 have k1 : ∀ i : { w' // S w' }, i.val.cell? ⟨w.heap.size, 1, none⟩ = some (.int .i64 a) := fun i => ((HS.out _).1 i.property).2
 have hne : Nonempty { w' // S w' } := ⟨⟨w.alloc (.cells #[.int .i64 op, .int .i64 a, .int .i64 b, .int .i64 c, .int .i64 n] 59), (HS.out _).2 (by go_simp)⟩⟩
 have hwr := wrapEq
 have Hop : Hid (∀ w : World, Calls Try.prog 55 #[.int .i64 (op - 20), .int .i64 (r b.toNat), .int .i64 (r c.toNat)] w fun e w' => e = .returned (.int .i64 (opI (op - 20) (r b.toNat) (r c.toNat))) ∧ More w w') := fun w => ref_op _ _ _ hb.1 hb.2 hc.1 hc.2 w
 obtain ⟨v, hv⟩ : ∃ v, opI (op - 20) (r b.toNat) (r c.toNat) = v := ⟨_, rfl⟩
 rw [hv] at Hop
 rw [hv]
 have hs : wrap64 (op - 20) = op - 20 := by unfold wrap64; omega
 obtain ⟨q, hq⟩ : ∃ q, op - 20 = q := ⟨_, rfl⟩
 rw [hq] at Hop hs
 have Hh : Hid (op = 29) := h
 clear h
 clear hr hrW hb hc hv
 go_enter Try.func35, Try.ntmps35
 go_wp2_with (fail)
 refine wp_region_ord (S := S) [(0, true), (1, true), (2, true), (3, true), (4, true), (5, true), (6, true), (7, true), (8, false), (9, true), (10, false)] (by kernel_rfl) (by kernel_rfl) (by kernel_rfl) ((HS.out _).2 (by go_simp)) ?_
 iterate 8 (refine wpOrd_take rfl (by kernel_rfl) (fun K hK => ?_); go_simp; refine hK _ _ ?_; clear hK K)
 refine wpOrd_busy rfl (by kernel_rfl) (fun K hK => ?_); go_simp
 refine (Hop.out _).mono ?_
 rintro e w1 ⟨rfl, m1⟩
 have e0 : w1.cell? ⟨w.heap.size, 0, none⟩ = some (.int .i64 op) := m1.cell (by go_simp)
 have e1 : w1.cell? ⟨w.heap.size, 1, none⟩ = some (.int .i64 a) := m1.cell (by go_simp)
 have Hr1 : Hid (RegsR w1 g r) := ((Hr.out.alloc _ _).drew).more m1
 have c1a := (Hr1.out a.toNat (by omega)).1
 have f1a := (Hr1.out a.toNat (by omega)).2
 have Hg1 : Hid (w.grownBy w1 (some g)) := gr_more (gr_drew (gr_alloc (grown_refl _ _) _)) m1
 clear m1
 go_simp
 refine hK _ _ ((HS.out _).2 ⟨e0, e1⟩) ?_; clear hK K
 refine wpOrd_take rfl (by kernel_rfl) (fun K hK => ?_); go_simp; refine hK _ _ ?_; clear hK K
 refine wpOrd_busy rfl (by kernel_rfl) (fun K hK => ?_); go_simp
 have e0' : (w1.setCell ⟨g, a.toNat, none⟩ (.int .i64 v)).cell? ⟨w.heap.size, 0, none⟩ = some (.int .i64 op) := by rw [World.cell?_setCell_other _ _ _ _ (by simp <;> omega)]; exact e0
 have e1' : (w1.setCell ⟨g, a.toNat, none⟩ (.int .i64 v)).cell? ⟨w.heap.size, 1, none⟩ = some (.int .i64 a) := by rw [World.cell?_setCell_other _ _ _ _ (by simp <;> omega)]; exact e1
 refine hK _ _ ((HS.out _).2 ⟨e0', e1'⟩) ?_; clear hK K
 refine wpOrd_done ?_
 have Hr2 : Hid (RegsR (w1.setCell ⟨g, a.toNat, none⟩ (.int .i64 v)) g (setR r a v)) := Hr1.out.set a v
 have Hg2 : Hid (w.grownBy (w1.setCell ⟨g, a.toNat, none⟩ (.int .i64 v)) (some g)) := gr_set Hg1.out _ _
 obtain ⟨w3, hw3⟩ : ∃ w3, w1.setCell ⟨g, a.toNat, none⟩ (.int .i64 v) = w3 := ⟨_, rfl⟩
 rw [hw3] at e0' Hr2 Hg2 ⊢
 clear hw3 k0 k1 hne ca fa cb fb cx fx c1a f1a e0 e1 e1' hwr
 obtain rfl := Hh.out
 go_wp2
 go_ret
 refine ⟨_, rfl, ⟨some ⟨w3.heap.size, 0, none⟩, w3.heap.size, 0, 1, rfl, fun _ => rfl, fun i s h => ?_, by simp⟩, by repeat (first | exact Hr2.out | apply RegsR.drew | apply RegsR.alloc), by repeat (first | exact Hg2.out | apply gr_drew | apply gr_alloc)⟩
 have hi : i = 0 := by have := (List.getElem?_eq_some_iff.1 h).1; simp at this; omega
 subst hi
 simp at h
 subst h
 refine ⟨?_, ?_, ?_⟩ <;> go_simp

set_option maxHeartbeats 1000000 in
theorem reg_op_mod (op a b c n : Int) (g : Nat) {gc : Nat} (r : Nat → Int) (w : World) (hr : RegsR w g r) (o0 : 21 ≤ op) (o1 : op ≤ 30) (a0 : 0 ≤ a) (a1 : a < 10) (b0 : 0 ≤ b) (b1 : b < 10) (c0 : 0 ≤ c) (c1 : c < 10) (h : op = 30) (hb : B64 (r b.toNat)) (hc : B64 (r c.toNat)) :
  Calls Try.prog 35 #[.slice (some ⟨g, 0, none⟩) 10 gc, .agg #[.int .i64 op, .int .i64 a, .int .i64 b, .int .i64 c, .int .i64 n]] w fun e w' => ∃ sv, e = .returned sv ∧ SeenAt w' sv ([⟨3, r b.toNat, r c.toNat⟩]) ∧ RegsR w' g (setR r a (opI (op - 20) (r b.toNat) (r c.toNat))) ∧ w.grownBy w' (some g) := by
 have Hr : Hid (RegsR w g r) := hr
 have hrW : RegsR (w.alloc (.cells #[.int .i64 op, .int .i64 a, .int .i64 b, .int .i64 c, .int .i64 n] 59)) g r := hr.alloc _ _
 have hg : g < w.heap.size := cell_block (hr 0 (by omega)).1
 have ca := (hr a.toNat (by omega)).1
 have fa := (hr a.toNat (by omega)).2
 have cb := (hr b.toNat (by omega)).1
 have fb := (hr b.toNat (by omega)).2
 have cx := (hr c.toNat (by omega)).1
 have fx := (hr c.toNat (by omega)).2
 obtain ⟨S, HS⟩ : ∃ S : World → Prop, Hid (∀ w', S w' ↔ w'.cell? ⟨w.heap.size, 0, none⟩ = some (.int .i64 op) ∧ w'.cell? ⟨w.heap.size, 1, none⟩ = some (.int .i64 a)) := ⟨_, fun _ => Iff.rfl⟩
 have k0 : ∀ i : { w' // S w' }, i.val.cell? ⟨w.heap.size, 0, none⟩ = some (.int .i64 op) := fun i => ((HS.out _).1 i.property).1
 have k1 : ∀ i : { w' // S w' }, i.val.cell? ⟨w.heap.size, 1, none⟩ = some (.int .i64 a) := fun i => ((HS.out _).1 i.property).2
 have hne : Nonempty { w' // S w' } := ⟨⟨w.alloc (.cells #[.int .i64 op, .int .i64 a, .int .i64 b, .int .i64 c, .int .i64 n] 59), (HS.out _).2 (by go_simp)⟩⟩
 have hwr := wrapEq
 have Hop : Hid (∀ w : World, Calls Try.prog 55 #[.int .i64 (op - 20), .int .i64 (r b.toNat), .int .i64 (r c.toNat)] w fun e w' => e = .returned (.int .i64 (opI (op - 20) (r b.toNat) (r c.toNat))) ∧ More w w') := fun w => ref_op _ _ _ hb.1 hb.2 hc.1 hc.2 w
 obtain ⟨v, hv⟩ : ∃ v, opI (op - 20) (r b.toNat) (r c.toNat) = v := ⟨_, rfl⟩
 rw [hv] at Hop
 rw [hv]
 have hs : wrap64 (op - 20) = op - 20 := by unfold wrap64; omega
 obtain ⟨q, hq⟩ : ∃ q, op - 20 = q := ⟨_, rfl⟩
 rw [hq] at Hop hs
 have Hh : Hid (op = 30) := h
 clear h
 clear hr hrW hb hc hv
 go_enter Try.func35, Try.ntmps35
 go_wp2_with (fail)
 refine wp_region_ord (S := S) [(0, true), (1, true), (2, true), (3, true), (4, true), (5, true), (6, true), (7, true), (8, false), (9, true), (10, false)] (by kernel_rfl) (by kernel_rfl) (by kernel_rfl) ((HS.out _).2 (by go_simp)) ?_
 iterate 8 (refine wpOrd_take rfl (by kernel_rfl) (fun K hK => ?_); go_simp; refine hK _ _ ?_; clear hK K)
 refine wpOrd_busy rfl (by kernel_rfl) (fun K hK => ?_); go_simp
 refine (Hop.out _).mono ?_
 rintro e w1 ⟨rfl, m1⟩
 have e0 : w1.cell? ⟨w.heap.size, 0, none⟩ = some (.int .i64 op) := m1.cell (by go_simp)
 have e1 : w1.cell? ⟨w.heap.size, 1, none⟩ = some (.int .i64 a) := m1.cell (by go_simp)
 have Hr1 : Hid (RegsR w1 g r) := ((Hr.out.alloc _ _).drew).more m1
 have c1a := (Hr1.out a.toNat (by omega)).1
 have f1a := (Hr1.out a.toNat (by omega)).2
 have Hg1 : Hid (w.grownBy w1 (some g)) := gr_more (gr_drew (gr_alloc (grown_refl _ _) _)) m1
 clear m1
 go_simp
 refine hK _ _ ((HS.out _).2 ⟨e0, e1⟩) ?_; clear hK K
 refine wpOrd_take rfl (by kernel_rfl) (fun K hK => ?_); go_simp; refine hK _ _ ?_; clear hK K
 refine wpOrd_busy rfl (by kernel_rfl) (fun K hK => ?_); go_simp
 have e0' : (w1.setCell ⟨g, a.toNat, none⟩ (.int .i64 v)).cell? ⟨w.heap.size, 0, none⟩ = some (.int .i64 op) := by rw [World.cell?_setCell_other _ _ _ _ (by simp <;> omega)]; exact e0
 have e1' : (w1.setCell ⟨g, a.toNat, none⟩ (.int .i64 v)).cell? ⟨w.heap.size, 1, none⟩ = some (.int .i64 a) := by rw [World.cell?_setCell_other _ _ _ _ (by simp <;> omega)]; exact e1
 refine hK _ _ ((HS.out _).2 ⟨e0', e1'⟩) ?_; clear hK K
 refine wpOrd_done ?_
 have Hr2 : Hid (RegsR (w1.setCell ⟨g, a.toNat, none⟩ (.int .i64 v)) g (setR r a v)) := Hr1.out.set a v
 have Hg2 : Hid (w.grownBy (w1.setCell ⟨g, a.toNat, none⟩ (.int .i64 v)) (some g)) := gr_set Hg1.out _ _
 obtain ⟨w3, hw3⟩ : ∃ w3, w1.setCell ⟨g, a.toNat, none⟩ (.int .i64 v) = w3 := ⟨_, rfl⟩
 rw [hw3] at e0' Hr2 Hg2 ⊢
 clear hw3 k0 k1 hne ca fa cb fb cx fx c1a f1a e0 e1 e1' hwr
 obtain rfl := Hh.out
 go_wp2
 go_ret
 refine ⟨_, rfl, ⟨some ⟨w3.heap.size, 0, none⟩, w3.heap.size, 0, 1, rfl, fun _ => rfl, fun i s h => ?_, by simp⟩, by repeat (first | exact Hr2.out | apply RegsR.drew | apply RegsR.alloc), by repeat (first | exact Hg2.out | apply gr_drew | apply gr_alloc)⟩
 have hi : i = 0 := by have := (List.getElem?_eq_some_iff.1 h).1; simp at this; omega
 subst hi
 simp at h
 subst h
 refine ⟨?_, ?_, ?_⟩ <;> go_simp
theorem seen_none (w : World) : SeenAt w (.slice none 0 0) [] := ⟨none, 0, 0, 0, rfl, fun h => absurd h (Nat.not_lt_zero _), fun i s h => by simp at h, by simp⟩

/-- An instruction of registers alone, such as a hard program has. -/
theorem ref_registers (i : Ins) (g : Nat) {gc : Nat} (r : Nat → Int) (w : World) (hr : RegsR w g r) (hb : ∀ j, j < 10 → B64 (r j)) {rl : Nat} {log : Nat → Int} {cl : Nat} (hi : InsOk rl log cl 10 i)
  (h3 : ¬ i.op = 3) (h4 : ¬ i.op = 4) (h5 : ¬ i.op = 5) (h6 : ¬ i.op = 6) (h7 : ¬ i.op = 7) (h8 : ¬ i.op = 8) (h9 : ¬ i.op = 9) :
  Calls Try.prog 35 #[.slice (some ⟨g, 0, none⟩) 10 gc, .agg #[.int .i64 i.op, .int .i64 i.a, .int .i64 i.b, .int .i64 i.c, .int .i64 i.n]] w fun e w' =>
   ∃ sv, e = .returned sv ∧ (((regsI r i).2 = [] ∧ sv = .slice none 0 0) ∨ ∃ t, (regsI r i).2 = [t]) ∧ SeenAt w' sv (regsI r i).2 ∧ RegsR w' g (regsI r i).1 ∧ w.grownBy w' (some g) := by
 obtain ⟨op, a, b, c, n⟩ := i
 dsimp only at h3 h4 h5 h6 h7 h8 h9 ⊢
 unfold InsOk at hi
 unfold regsI
 dsimp only at hi ⊢
 by_cases h1 : op = 1
 ·subst h1
  simp only [if_true] at hi ⊢
  refine (reg_1 a b c n g r w hr hi.1.1 hi.1.2).mono ?_
  rintro e w' ⟨rfl, k1, k2⟩
  exact ⟨_, rfl, .inl (by simp), seen_none _, k1, k2⟩
 rw [if_neg h1] at hi ⊢
 by_cases h2 : op = 2
 ·subst h2
  simp only [if_true] at hi ⊢
  refine (reg_2 a b c n g r w hr hi.1.1 hi.1.2 hi.2.1.1 hi.2.1.2).mono ?_
  rintro e w' ⟨rfl, k1, k2⟩
  exact ⟨_, rfl, .inl (by simp), seen_none _, k1, k2⟩
 rw [if_neg h2] at hi ⊢
 rw [if_neg h3, if_neg h4, if_neg h5, if_neg h6, if_neg h7, if_neg h8, if_neg h9] at hi
 by_cases h10 : op = 10
 ·subst h10
  simp only [if_true] at hi ⊢
  refine (reg_10 a b c n g r w hr hi.1.1 hi.1.2 hi.2.1.1 hi.2.1.2).mono ?_
  rintro e w' ⟨rfl, k1, k2⟩
  exact ⟨_, rfl, .inl (by simp), seen_none _, k1, k2⟩
 rw [if_neg h10] at hi ⊢
 by_cases h11 : op = 11
 ·subst h11
  simp only [if_true] at hi ⊢
  by_cases hlo : r a.toNat < 0
  ·rw [if_pos (Or.inl hlo)]
   refine (reg_11_lo a b c n g r _ w hr rfl hi.1.1 hi.1.2 hlo).mono ?_
   rintro e w' ⟨rfl, k1, k2⟩
   exact ⟨_, rfl, .inl (by simp), seen_none _, k1, k2⟩
  ·by_cases hhi : n ≤ r a.toNat
   ·rw [if_pos (Or.inr hhi)]
    refine (reg_11_hi a b c n g r _ w hr rfl hi.1.1 hi.1.2 hlo hhi).mono ?_
    rintro e w' ⟨rfl, k1, k2⟩
    exact ⟨_, rfl, .inl (by simp), seen_none _, k1, k2⟩
   ·rw [if_neg (by omega)]
    refine (reg_11_in a b c n g r _ w hr rfl hi.1.1 hi.1.2 hlo (by omega)).mono ?_
    rintro e w' ⟨rfl, k1, k2⟩
    exact ⟨_, rfl, .inl (by simp), seen_none _, k1, k2⟩
 rw [if_neg h11] at hi ⊢
 by_cases h12 : op = 12
 ·subst h12
  simp only [if_true] at hi ⊢
  refine (reg_12 a b c n g r w hr).mono ?_
  rintro e w' ⟨rfl, k1, k2⟩
  exact ⟨_, rfl, .inl (by simp), seen_none _, k1, k2⟩
 rw [if_neg h12] at hi ⊢
 obtain ⟨⟨o0, o1⟩, ⟨a0, a1⟩, ⟨b0, b1⟩, ⟨c0, c1⟩, _⟩ := hi
 have hb1 := hb b.toNat (by omega)
 have hb2 := hb c.toNat (by omega)
 by_cases h29 : op = 29
 ·rw [if_pos (Or.inl h29)]
  refine (reg_op_div op a b c n g r w hr o0 o1 a0 a1 b0 b1 c0 c1 h29 hb1 hb2).mono ?_
  rintro e w' ⟨sv, rfl, k0, k1, k2⟩
  exact ⟨sv, rfl, .inr ⟨_, rfl⟩, k0, k1, k2⟩
 by_cases h30 : op = 30
 ·rw [if_pos (Or.inr h30)]
  refine (reg_op_mod op a b c n g r w hr o0 o1 a0 a1 b0 b1 c0 c1 h30 hb1 hb2).mono ?_
  rintro e w' ⟨sv, rfl, k0, k1, k2⟩
  exact ⟨sv, rfl, .inr ⟨_, rfl⟩, k0, k1, k2⟩
 rw [if_neg (by omega)]
 refine (reg_op_no op a b c n g r w hr o0 o1 a0 a1 b0 b1 c0 c1 h29 h30 hb1 hb2).mono ?_
 rintro e w' ⟨rfl, k1, k2⟩
 exact ⟨_, rfl, .inl (by simp), seen_none _, k1, k2⟩

/-- Index, whichever of the four it is. -/
theorem ref_index (i : Ins) (g : Nat) {gc : Nat} (r : Nat → Int) (w : World) (hr : RegsR w g r) (b0 : 0 ≤ i.b) (b1 : i.b < 10) :
  Calls Try.prog 33 #[.slice (some ⟨g, 0, none⟩) 10 gc, .agg #[.int .i64 i.op, .int .i64 i.a, .int .i64 i.b, .int .i64 i.c, .int .i64 i.n]] w fun e w' => e = .returned (.int .i64 (idxI r i)) ∧ More w w' := by
 unfold idxI
 by_cases h : i.op = 5 ∨ i.op = 6
 ·rw [if_pos h]
  exact ref_index_k i.op i.a i.b i.c i.n _ h w
 ·rw [if_neg h]
  exact ref_index_r i.op i.a i.b i.c i.n g (r i.b.toNat) (fun e => h (.inl e)) (fun e => h (.inr e)) b0 b1 w (hr i.b.toNat (by omega)).1
end
section
open Go.RowKit
set_option linter.unusedVariables false
theorem info2 : (Try.prog.info? 2).map (fun i => (i.zero, i.size, i.bytes)) = some (some (.int .i64 0), 1, 8) := by kernel_rfl
theorem info43 : (Try.prog.info? 70).map (fun i => (i.zero, i.size, i.bytes)) = some (some (.slice none 0 0), 1, 24) := by kernel_rfl

/-- The words of a list, as cells. -/
def wordsL (m : Mem) (j : Nat) : List Value := (List.range (m.len j)).map fun i => .int .i64 (m.wd j i)
theorem wordsL_length (m : Mem) (j : Nat) : (wordsL m j).length = m.len j := by simp [wordsL]
theorem wordsL_one (m : Mem) (j : Nat) : ∀ u ∈ wordsL m j, u.oneCell' = true := by
 intro u hu
 simp only [wordsL, List.mem_map] at hu
 obtain ⟨i, _, rfl⟩ := hu
 rfl
theorem wordsL_at (m : Mem) (j i : Nat) (h : i < m.len j) : (wordsL m j)[i]? = some (.int .i64 (m.wd j i)) := by simp [wordsL, h]

/-- So many lists have been copied. -/
structure CpAt (w : World) (base : Nat) (m : Mem) (k : Nat) (v : Value) (G C : Nat → Nat) : Prop where
 own : w.ownsRow base 70 1 v k ((List.range k).map fun j => .slice (some ⟨G j, 0, none⟩) (m.len j) (C j))
 row : ∀ j, j < k → w.ownsRow base 2 1 (.slice (some ⟨G j, 0, none⟩) (m.len j) (C j)) (m.len j) (wordsL m j)
 apart : ∀ j, j < k → v.ownBlock ≠ some (G j)
 apart2 : ∀ j j', j < k → j' < k → j ≠ j' → G j ≠ G j'

theorem CpAt.start (w : World) (base : Nat) (m : Mem) : CpAt w base m 0 (.slice none 0 0) (fun _ => 0) (fun _ => 0) :=
 ⟨World.ownsRow_nil _ _ _ _, fun j hj => absurd hj (Nat.not_lt_zero _), fun j hj => absurd hj (Nat.not_lt_zero _), fun j j' hj => absurd hj (Nat.not_lt_zero _)⟩

theorem CpAt.lt {w : World} {base : Nat} {m : Mem} {k : Nat} {v : Value} {G C : Nat → Nat} (c : CpAt w base m k v G C) (j : Nat) (hj : j < k) : G j < w.heap.size := ((c.row j hj).lt _ rfl).2

theorem CpAt.own3 {wr w2 : World} {base : Nat} {m : Mem} {k : Nat} {v : Value} {G C : Nat → Nat} (c : CpAt wr base m k v G C) (o o3 : Obj) (gr2 : (wr.alloc o).grownBy w2 (some wr.heap.size)) :
  (w2.alloc o3).ownsRow base 70 1 v k ((List.range k).map fun j => .slice (some ⟨G j, 0, none⟩) (m.len j) (C j)) :=
 ((c.own.alloc o).kept gr2 (by
  cases hb : v.ownBlock with
  | none => left; rfl
  | some b => right; have := (c.own.lt b hb).2; simp; omega)).alloc o3

theorem CpAt.step {wr w2 w4 : World} {base : Nat} {m : Mem} {k : Nat} {v : Value} {G C : Nat → Nat} (c : CpAt wr base m k v G C) (o o3 : Obj) (g cap g2 cap2 : Nat)
  (own2 : w2.ownsRow base 2 1 (.slice (some ⟨g, 0, none⟩) (m.len k) cap) (m.len k) (wordsL m k)) (gr2 : (wr.alloc o).grownBy w2 (some wr.heap.size)) (hg : wr.heap.size ≤ g)
  (own4 : w4.ownsRow base 70 1 (.slice (some ⟨g2, 0, none⟩) (k + 1) cap2) (k + 1) (((List.range k).map fun j => .slice (some ⟨G j, 0, none⟩) (m.len j) (C j)) ++ [.slice (some ⟨g, 0, none⟩) (m.len k) cap]))
  (gr4 : (w2.alloc o3).grownBy w4 v.ownBlock) (hat : v.ownBlock = some g2 ∨ g2 = w2.heap.size + 1) :
  CpAt w4 base m (k + 1) (.slice (some ⟨g2, 0, none⟩) (k + 1) cap2) (fun j => if j = k then g else G j) (fun j => if j = k then cap else C j) := by
 have hs1 : wr.heap.size + 1 ≤ w2.heap.size := by have := gr2.size; simpa using this
 have hgl : g < w2.heap.size := ((own2.lt _ rfl).2)
 have hvl : ∀ b, v.ownBlock = some b → b < wr.heap.size := fun b hb => ((c.own.lt b hb).2)
 refine ⟨?_, fun j hj => ?_, fun j hj => ?_, fun j j' hj hj' hne => ?_⟩
 ·have e : ((List.range (k + 1)).map fun j => (Value.slice (some ⟨(if j = k then g else G j), 0, none⟩) (m.len j) (if j = k then cap else C j)))
    = ((List.range k).map fun j => (Value.slice (some ⟨G j, 0, none⟩) (m.len j) (C j))) ++ [.slice (some ⟨g, 0, none⟩) (m.len k) cap] := by
   rw [List.range_succ, List.map_append]
   congr 1
   ·refine List.map_congr_left fun j hj => ?_
    have : j ≠ k := by have := List.mem_range.1 hj; omega
    simp [this]
   ·simp
  rw [e]
  exact own4
 ·by_cases e : j = k
  ·subst e
   simp only [if_true]
   exact (own2.alloc o3).kept gr4 (by
    cases hb : v.ownBlock with
    | none => right; simp [Value.ownBlock]
    | some b => right; have := hvl b hb; simp [Value.ownBlock]; omega)
  ·simp only [e, if_false]
   have hj' : j < k := by omega
   have hl := c.lt j hj'
   refine ((((c.row j hj').alloc o).kept gr2 (by right; simp [Value.ownBlock]; omega)).alloc o3).kept gr4 (by right; simp only [Value.ownBlock]; exact fun h => c.apart j hj' h.symm)
 ·simp only [Value.ownBlock]
  intro h
  simp only [Option.some.injEq] at h
  by_cases e : j = k
  ·simp only [e, if_true] at h
   rcases hat with h1 | h1
   ·have := hvl g2 h1; omega
   ·omega
  ·simp only [e, if_false] at h
   have hj' : j < k := by omega
   rcases hat with h1 | h1
   ·exact c.apart j hj' (by rw [h1, h])
   ·have := c.lt j hj'; omega
 ·by_cases e : j = k
  ·by_cases e' : j' = k
   ·omega
   ·simp only [e, e', if_true, if_false]
    have := c.lt j' (by omega)
    omega
  ·by_cases e' : j' = k
   ·simp only [e, e', if_true, if_false]
    have := c.lt j (by omega)
    omega
   ·simp only [e, e', if_false]
    exact c.apart2 j j' (by omega) (by omega) hne

set_option maxHeartbeats 1000000 in
theorem ref_copy (m : Mem) (l : MLoc) (w : World) (h : MIn w m l) (hl : m.ml ≤ 6) (hw : ∀ i, i < m.ml → 0 < m.len i ∧ m.len i ≤ 64) :
  Calls Try.prog 30 #[.slice l.ma m.ml l.mc] w fun e w' => ∃ (v : Value) (G C : Nat → Nat), e = .returned v ∧ CpAt w' w.heap.size m m.ml v G C ∧ More w w' := by
 obtain ⟨ma, mb, mo, mc, A, C0, gb, go⟩ := l
 obtain ⟨i0, hi, hz0, hz1, hz2⟩ := info_parts info2
 obtain ⟨i1, hi', hz0', hz1', hz2'⟩ := info_parts info43
 have H : Hid (MIn w m ⟨ma, mb, mo, mc, A, C0, gb, go⟩ ∧ m.ml ≤ 6 ∧ ∀ i, i < m.ml → 0 < m.len i ∧ m.len i ≤ 64) := ⟨h, hl, hw⟩
 have Hi : Hid (Try.prog.info? 2 = some i0 ∧ i0.zero = some (.int .i64 0) ∧ i0.size = 1 ∧ i0.bytes = 8) := ⟨hi, hz0, hz1, hz2⟩
 have Hi' : Hid (Try.prog.info? 70 = some i1 ∧ i1.zero = some (.slice none 0 0) ∧ i1.size = 1 ∧ i1.bytes = 24) := ⟨hi', hz0', hz1', hz2'⟩
 clear h hl hw hi hz0 hz1 hz2 hi' hz0' hz1' hz2'
 obtain ⟨n, hn⟩ : ∃ n, m.ml = n := ⟨_, rfl⟩
 dsimp only
 rw [hn]
 have Hn : Hid (m.ml = n) := hn
 clear hn
 go_enter Try.func30, Try.ntmps30
 go_wp2
 go_loopg [3, 4] n (fun q v i wr => ∃ (k : Nat) (G C : Nat → Nat), k + q = n ∧ i = .int .i64 k ∧ CpAt wr w.heap.size m k v G C ∧ More w wr)
 case atStart => exact ⟨0, _, _, by omega, rfl, CpAt.start _ _ _, More.refl _⟩
 case round =>
  obtain ⟨k, G, C, hkg, rfl, hc, mm⟩ := hrel
  have Hm : Hid (CpAt wr w.heap.size m k u3 G C ∧ More w wr) := ⟨hc, mm⟩
  clear hc mm
  cases gk with
  | zero =>
   obtain rfl : k = n := by omega
   go_wp2
   go_ret
   exact ⟨_, G, C, rfl, Hm.out.1, Hm.out.2⟩
  | succ q =>
   have hk : k < n := by omega
   have hk' : (k : Int) < (n : Int) := by omega
   have hk0 : (0 : Int) ≤ (k : Int) := by omega
   have Hk : Hid (k < m.ml) := by rw [show Hid (k < m.ml) = (k < m.ml) from rfl, Hn.out]; exact hk
   obtain rfl : ma = some ⟨mb, mo, none⟩ := H.out.1.hm (by have := Hk.out; omega)
   have q1 := (H.out.1.lists.more Hm.out.2) k Hk.out
   dsimp only at q1
   rw [show A k = some ⟨gb k, go k, none⟩ from H.out.1.hg k Hk.out (H.out.2.2 k Hk.out).1] at q1
   have q2 : (wr.alloc (.cells #[] 2)).cell? ⟨mb, mo + k, none⟩ = some (.slice (some ⟨gb k, go k, none⟩) (m.len k) (C0 k)) := ((More.refl _).alloc _ _).cell q1
   clear q1
   have Hl : Hid (0 < m.len k ∧ m.len k ≤ 64) := H.out.2.2 k Hk.out
   have Hown1 : Hid ((wr.alloc (.cells #[] 2)).ownsRow w.heap.size 2 1 (.slice (some ⟨wr.heap.size, 0, none⟩) 0 0) 0 []) := World.ownsRow_made _ #[] 0 Hm.out.2.size (by unfold maxLen; omega) rfl
   have Hnews : Hid (∀ j u, (wordsL m k)[j]? = some u → (wr.alloc (.cells #[] 2)).cell? ((⟨gb k, go k, none⟩ : Addr).add j) = some u) := by
    intro j u hu
    have hj : j < m.len k := by have := (List.getElem?_eq_some_iff.1 hu).1; rw [wordsL_length] at this; exact this
    rw [wordsL_at m k j hj] at hu
    rw [Go.WideShapes.add_plain, ← Option.some.inj hu]
    exact (Hm.out.2.trans ((More.refl _).alloc _ _)).cell (H.out.1.words k Hk.out j hj)
   obtain ⟨r, hr⟩ : ∃ r, m.len k = r := ⟨_, rfl⟩
   rw [hr] at q2 Hl
   have Hr : Hid (m.len k = r) := hr
   clear hr
   go_wp2_with (first
    | (at_builtin; refine wpList_append_lies _ rfl (.tmp 12) (.tmp 16) 70 rfl w.heap.size 2 i0 (.int .i64 0) 1 8 Try.underlying70 Hi.out.1 Hi.out.2.1 Hi.out.2.2.1 Hi.out.2.2.2 rfl (by decide) (.slice (some ⟨wr.heap.size, 0, none⟩) 0 0) 0 [] rfl Hown1.out ⟨gb k, go k, none⟩ r (C0 k) (wordsL m k) rfl (by rw [wordsL_length, Hr.out, Nat.mul_one]) Hnews.out (wordsL_one m k) Hl.out.1 (by have := Hl.out.2; unfold maxLen; omega) (by have := Hl.out.2; omega) (by have := Hm.out.2.size; simp; omega) (wr.heap.size + 1) (by simp) ?_; intro g cap w2 own2 gr2 hat2 hlt2)
    | (at_builtin; refine wpList_append_lies _ rfl (.tmp 11) (.tmp 18) 35 rfl w.heap.size 70 i1 (.slice none 0 0) 1 24 Try.underlying35 Hi'.out.1 Hi'.out.2.1 Hi'.out.2.2.1 Hi'.out.2.2.2 rfl (by decide) u3 k ((List.range k).map fun j => .slice (some ⟨G j, 0, none⟩) (m.len j) (C j)) rfl (Hm.out.1.own3 _ _ gr2) ⟨w2.heap.size, 0, none⟩ 1 1 [.slice (some ⟨g, 0, none⟩) r cap] rfl rfl (cell_one_new _ _ _) (fun x hx => by simp at hx; subst hx; rfl) (by decide) (by have := H.out.2.1; have := Hk.out; unfold maxLen; omega) (by have := H.out.2.1; have := Hk.out; omega) (by have := Hm.out.2.size; have := gr2.size; simp at this ⊢; omega) (w2.heap.size + 1) (by simp) ?_; intro g2 cap2 w4 own4 gr4 hat4 hlt4))
   go_roundg q
   case measure => omega
   case rel =>
    have hgg : wr.heap.size ≤ g := by
     rcases hat2 with h1 | h1
     ·simp [Value.ownBlock] at h1; omega
     ·omega
    have hs2 : wr.heap.size + 1 ≤ w2.heap.size := by have := gr2.size; simpa using this
    have hw := Hm.out.2.size
    refine ⟨k + 1, _, _, by omega, by first | rfl | (simp; unfold wrap64; have := H.out.2.1; have := Hk.out; omega), Hm.out.1.step (.cells #[] 2) (.cells #[.slice (some ⟨g, 0, none⟩) r cap] 70) g cap g2 cap2 ?_ gr2 hgg ?_ gr4 hat4, ?_⟩
    ·rw [Hr.out]
     simpa using own2
    ·rw [Hr.out]
     exact own4
    ·have m2 : More w w2 := (Hm.out.2.trans ((More.refl _).alloc #[] 2)).grownBy gr2 (fun b hb => by have h9 : wr.heap.size = b := (by simpa [Value.ownBlock] using hb); omega)
     refine (m2.alloc _ _).grownBy gr4 (fun b hb => ?_)
     exact (Hm.out.1.own.lt b hb).1
def flatS : List Se → List Value
 | [] => []
 | s :: l => .int .i64 s.kind :: .int .i64 s.a :: .int .i64 s.b :: flatS l
theorem flatS_append : ∀ l l' : List Se, flatS (l ++ l') = flatS l ++ flatS l'
 | [], _ => rfl
 | s :: l, l' => by simp [flatS, flatS_append l l']
theorem flatS_at : ∀ (l : List Se) (i : Nat) (s : Se), l[i]? = some s → (flatS l)[i * 3]? = some (.int .i64 s.kind) ∧ (flatS l)[i * 3 + 1]? = some (.int .i64 s.a) ∧ (flatS l)[i * 3 + 2]? = some (.int .i64 s.b)
 | [], i, s, h => by simp at h
 | x :: l, 0, s, h => by simp at h; subst h; simp [flatS]
 | x :: l, i + 1, s, h => by
  have := flatS_at l i s (by simpa using h)
  rw [show (i + 1) * 3 = i * 3 + 1 + 1 + 1 by omega, flatS]
  simpa using this

/-- What was shown, in a row of the run's own. -/
def SeenOwn (w : World) (base : Nat) (v : Value) (l : List Se) : Prop := w.ownsRow base 73 3 v l.length (flatS l)

theorem SeenOwn.at_ {w : World} {base : Nat} {v : Value} {l : List Se} (h : SeenOwn w base v l) (hb : l.length < 4611686018427387904) : SeenAt w v l := by
 by_cases h0 : l.length = 0
 ·rcases h.2 with ⟨rfl, _⟩ | ⟨g, cap, cur, rfl, _⟩
  ·have : l = [] := List.eq_nil_of_length_eq_zero h0
   subst this
   exact ⟨none, 0, 0, 0, rfl, fun h => absurd h (Nat.not_lt_zero _), fun i s h => by simp at h, by simp⟩
  ·have : l = [] := List.eq_nil_of_length_eq_zero h0
   subst this
   exact ⟨_, 0, 0, cap, rfl, fun h => absurd h (Nat.not_lt_zero _), fun i s h => by simp at h, by simp⟩
 ·obtain ⟨g, cap, rfl, _, _⟩ := World.ownsRow.form h (by omega)
  refine ⟨_, g, 0, cap, rfl, fun _ => rfl, fun i s hs => ?_, hb⟩
  have hi : i < l.length := (List.getElem?_eq_some_iff.1 hs).1
  obtain ⟨f0, f1, f2⟩ := flatS_at l i s hs
  simp only [Nat.zero_add]
  exact ⟨by rw [World.ownsRow.cellAt h _ (by omega)]; exact f0, by rw [World.ownsRow.cellAt h _ (by omega)]; exact f1, by rw [World.ownsRow.cellAt h _ (by omega)]; exact f2⟩

theorem SeenOwn.kept {w w' : World} {base : Nat} {v : Value} {l : List Se} (h : SeenOwn w base v l) {row : Option Nat} (hg : w.grownBy w' row) (hr : ∀ b, row = some b → b < base) : SeenOwn w' base v l := by
 refine World.ownsRow.kept h hg ?_
 cases hv : v.ownBlock with
 | none => left; rfl
 | some b =>
  right
  intro e
  have h1 := (World.ownsRow.lt h b hv).1
  have h2 := hr b e.symm
  omega

structure MemOwn (w : World) (lo hi : Nat) (m : Mem) (mv : Value) (mb mc : Nat) (G C : Nat → Nat) : Prop where
 val : 0 < m.ml → mv = .slice (some ⟨mb, 0, none⟩) m.ml mc ∧ lo ≤ mb ∧ mb < hi
 nil : m.ml = 0 → ∃ a c, mv = .slice a 0 c
 rows : ∀ j, j < m.ml → w.cell? ⟨mb, j, none⟩ = some (.slice (some ⟨G j, 0, none⟩) (m.len j) (C j))
 words : ∀ j, j < m.ml → ∀ i, i < m.len j → w.cell? ⟨G j, i, none⟩ = some (.int .i64 (m.wd j i)) ∧ w.frozen? ⟨G j, i, none⟩ = false
 at_ : ∀ j, j < m.ml → lo ≤ G j ∧ G j < hi ∧ G j ≠ mb
 apart : ∀ j j', j < m.ml → j' < m.ml → j ≠ j' → G j ≠ G j'

theorem CpAt.own_ {w : World} {base : Nat} {m : Mem} {v : Value} {G C : Nat → Nat} (c : CpAt w base m m.ml v G C) : ∃ mb mc, MemOwn w base w.heap.size m v mb mc G C := by
 by_cases h0 : m.ml = 0
 ·have hv : ∃ a cap, v = .slice a 0 cap := by
   rcases c.own.2 with ⟨h, _⟩ | ⟨g, cap, cur, h, _⟩
   ·exact ⟨_, _, h⟩
   ·exact ⟨_, cap, by rw [h, h0]⟩
  exact ⟨0, 0, fun h => by omega, fun _ => hv, fun j hj => by omega, fun j hj => by omega, fun j hj => by omega, fun j j' hj => by omega⟩
 ·obtain ⟨g, cap, rfl, hb, hl⟩ := World.ownsRow.form c.own (by omega)
  refine ⟨g, cap, fun _ => ⟨rfl, hb, hl⟩, fun h => absurd h h0, fun j hj => ?_, fun j hj i hi => ⟨?_, World.ownsRow.frozenAt (c.row j hj) i⟩, fun j hj => ⟨((c.row j hj).lt _ rfl).1, ((c.row j hj).lt _ rfl).2, fun e => c.apart j hj (by rw [e]; rfl)⟩, c.apart2⟩
  ·rw [World.ownsRow.cellAt c.own j (by omega)]
   simp [hj]
  ·rw [World.ownsRow.cellAt (c.row j hj) i (by omega)]
   exact wordsL_at m j i hi

theorem MemOwn.kept {w w' : World} {lo hi : Nat} {m : Mem} {mv : Value} {mb mc : Nat} {G C : Nat → Nat} (h : MemOwn w lo hi m mv mb mc G C) {row : Option Nat} (hg : w.grownBy w' row) (hr : ∀ b, row = some b → b < lo ∨ hi ≤ b) :
  MemOwn w' lo hi m mv mb mc G C := by
 refine ⟨h.val, h.nil, fun j hj => ?_, fun j hj i hi' => ?_, h.at_, h.apart⟩
 ·exact hg.cell (h.rows j hj) (fun e => by have := hr mb e.symm; have := h.val (by omega); omega)
 ·have hne : some (G j) ≠ row := fun e => by have := hr (G j) e.symm; have := h.at_ j hj; omega
  exact ⟨hg.cell (h.words j hj i hi').1 hne, (frozen_kept hg (h.words j hj i hi').1 hne).trans (h.words j hj i hi').2⟩

theorem MemOwn.set {w : World} {lo hi : Nat} {m : Mem} {mv : Value} {mb mc : Nat} {G C : Nat → Nat} (h : MemOwn w lo hi m mv mb mc G C) (c i : Nat) (hc : c < m.ml) (hi' : i < m.len c) (v : Int) :
  MemOwn (w.setCell ⟨G c, i, none⟩ (.int .i64 v)) lo hi (setW m c i v) mv mb mc G C := by
 refine ⟨h.val, h.nil, fun j hj => ?_, fun j hj x hx => ?_, h.at_, h.apart⟩
 ·rw [World.cell?_setCell_other _ _ _ _ (by intro e; simp only [Addr.mk.injEq] at e; exact (h.at_ c hc).2.2 e.1)]
  exact h.rows j hj
 ·have hw := h.words j hj x hx
  refine ⟨?_, by rw [World.frozen?_setCell]; exact hw.2⟩
  unfold setW
  dsimp only
  by_cases e : j = c ∧ x = i
  ·obtain ⟨rfl, rfl⟩ := e
   rw [if_pos ⟨rfl, rfl⟩]
   exact World.cell?_setCell_same _ _ _ hw.1
  ·rw [if_neg e, World.cell?_setCell_other]
   ·exact hw.1
   ·intro e'
    simp only [Addr.mk.injEq] at e'
    by_cases ej : j = c
    ·exact e ⟨ej, by subst ej; exact e'.2.1.symm⟩
    ·exact h.apart j c hj hc ej e'.1.symm

theorem MemOwn.in_ {w : World} {lo hi : Nat} {m : Mem} {mv : Value} {mb mc : Nat} {G C : Nat → Nat} (h : MemOwn w lo hi m mv mb mc G C) (f1 : m.ml < 4611686018427387904) (f2 : ∀ i, i < m.ml → m.len i < 4611686018427387904) :
  ∃ l : MLoc, mv = .slice l.ma m.ml l.mc ∧ MIn w m l := by
 by_cases h0 : m.ml = 0
 ·obtain ⟨a, c, hv⟩ := h.nil h0
  refine ⟨⟨a, 0, 0, c, fun _ => none, fun _ => 0, fun _ => 0, fun _ => 0⟩, by rw [hv, h0], fun h => by omega, fun j hj => by omega, fun j hj => by omega, fun j hj => by omega, f1, f2⟩
 ·refine ⟨⟨some ⟨mb, 0, none⟩, mb, 0, mc, fun j => some ⟨G j, 0, none⟩, C, G, fun _ => 0⟩, (h.val (by omega)).1, fun _ => rfl, fun j hj => ?_, fun j hj _ => rfl, fun j hj i hi => ?_, f1, f2⟩
  ·simpa using h.rows j hj
  ·simpa using (h.words j hj i hi).1
end
section
open Go.RowKit
set_option linter.unusedSimpArgs false
set_option linter.unusedVariables false
/-- What holds of every state that a run comes to. -/
structure Inv (p : Prg) (m : Mem) (k : Nat) (s : St) : Prop where
 at_ : s.at_ ≤ p.cl
 r : ∀ j, j < 10 → B64 (s.r j)
 ml : s.m.ml = m.ml
 len : ∀ j, s.m.len j = m.len j
 wd : ∀ j, j < m.ml → ∀ i, i < m.len j → B64 (s.m.wd j i)
 seen : s.seen.length ≤ 2 * k

theorem own_form {w : World} {base : Nat} {e : TypeId} {size : Nat} {v : Value} {n : Nat} {xs : List Value} (h : w.ownsRow base e size v n xs) : ∃ a c, v = .slice a n c := by
 rcases h.2 with ⟨h, h0⟩ | ⟨g, cap, cur, h, _⟩
 ·exact ⟨none, 0, by rw [h, h0]⟩
 ·exact ⟨_, cap, h⟩
end
section
open Go.RowKit
set_option linter.unusedVariables false
/-- A cell that may be written. -/
def Wr (w : World) (b o : Nat) (v : Value) : Prop := w.cell? ⟨b, o, none⟩ = some v ∧ w.frozen? ⟨b, o, none⟩ = false
theorem Wr.kept {w w' : World} {row : Option Nat} (hg : w.grownBy w' row) {b o : Nat} {v : Value} (h : Wr w b o v) (hne : some b ≠ row) : Wr w' b o v :=
 ⟨hg.cell h.1 hne, (frozen_kept hg h.1 hne).trans h.2⟩
theorem Wr.same {w : World} {b o : Nat} {v : Value} (h : Wr w b o v) (u : Value) : Wr (w.setCell ⟨b, o, none⟩ u) b o u :=
 ⟨World.cell?_setCell_same _ _ _ h.1, by rw [World.frozen?_setCell]; exact h.2⟩
theorem Wr.other {w : World} {b o : Nat} {v : Value} (h : Wr w b o v) (b' o' : Nat) (u : Value) (hne : b' ≠ b ∨ o' ≠ o) : Wr (w.setCell ⟨b', o', none⟩ u) b o v :=
 ⟨by rw [World.cell?_setCell_other _ _ _ _ (by intro e; simp only [Addr.mk.injEq] at e; omega)]; exact h.1, by rw [World.frozen?_setCell]; exact h.2⟩

/-- N: the box of the program; N + 1: the result; B: what is shown; B + 1: the registers; behind them what was seen; between N + 1 and B the words. -/
structure PAt (w wr : World) (rv cv : Value) (B : Nat) (s : St) (k : Nat) (sv mv : Value) (mb mc : Nat) (G C : Nat → Nat) : Prop where
 more : More w wr
 size : B + 1 < wr.heap.size
 low : w.heap.size + 2 ≤ B
 b0 : Wr wr w.heap.size 0 rv
 b1 : Wr wr w.heap.size 1 cv
 o0 : Wr wr (w.heap.size + 1) 0 (.int .i64 0)
 o1 : Wr wr (w.heap.size + 1) 1 (.int .i64 0)
 o2 : Wr wr (w.heap.size + 1) 2 (.int .i64 0)
 o3 : Wr wr (w.heap.size + 1) 3 (.slice none 0 0)
 o4 : Wr wr (w.heap.size + 1) 4 (.slice none 0 0)
 s0 : Wr wr B 0 (.int .i64 0)
 s1 : Wr wr B 1 (.int .i64 0)
 s2 : Wr wr B 2 (.int .i64 k)
 s3 : Wr wr B 3 sv
 s4 : Wr wr B 4 mv
 regs : RegsR wr (B + 1) s.r
 seen : SeenOwn wr (B + 2) sv s.seen
 mem : MemOwn wr (w.heap.size + 2) B s.m mv mb mc G C

section
variable {w wr w' : World} {rv cv : Value} {B : Nat} {s : St} {k : Nat} {sv mv : Value} {mb mc : Nat} {G C : Nat → Nat}

theorem PAt.grown (h : PAt w wr rv cv B s k sv mv mb mc G C) (hg : wr.grownBy w' none) : PAt w w' rv cv B s k sv mv mb mc G C :=
 ⟨h.more.grownBy hg (fun b hb => by cases hb), Nat.lt_of_lt_of_le h.size hg.size, h.low, h.b0.kept hg (by simp), h.b1.kept hg (by simp), h.o0.kept hg (by simp), h.o1.kept hg (by simp), h.o2.kept hg (by simp), h.o3.kept hg (by simp), h.o4.kept hg (by simp),
  h.s0.kept hg (by simp), h.s1.kept hg (by simp), h.s2.kept hg (by simp), h.s3.kept hg (by simp), h.s4.kept hg (by simp), h.regs.kept hg (by simp), h.seen.kept hg (fun b hb => by cases hb), h.mem.kept hg (fun b hb => by cases hb)⟩
theorem PAt.alloc (h : PAt w wr rv cv B s k sv mv mb mc G C) (o : Obj) : PAt w (wr.alloc o) rv cv B s k sv mv mb mc G C := h.grown (World.grownBy_alloc _ _ _)
theorem PAt.drew (h : PAt w wr rv cv B s k sv mv mb mc G C) : PAt w wr.drew rv cv B s k sv mv mb mc G C := h.grown (grown_drew _ _)
theorem PAt.on (h : PAt w wr rv cv B s k sv mv mb mc G C) (m : More wr w') : PAt w w' rv cv B s k sv mv mb mc G C := h.grown (m.grow _)

/-- One step more. -/
theorem PAt.steps (h : PAt w wr rv cv B s k sv mv mb mc G C) (k' : Nat) (n : Int) (hn : n = k') : PAt w (wr.setCell ⟨B, 2, none⟩ (.int .i64 n)) rv cv B s k' sv mv mb mc G C := by
 subst hn
 have hl := h.low
 have hg := grown_set wr B 2 (.int .i64 (k' : Int))
 exact ⟨h.more.grownBy hg (fun b hb => by have := Option.some.inj hb; omega), Nat.lt_of_lt_of_le h.size hg.size, h.low, h.b0.other _ _ _ (by omega), h.b1.other _ _ _ (by omega), h.o0.other _ _ _ (by omega), h.o1.other _ _ _ (by omega), h.o2.other _ _ _ (by omega), h.o3.other _ _ _ (by omega), h.o4.other _ _ _ (by omega),
  h.s0.other _ _ _ (by omega), h.s1.other _ _ _ (by omega), h.s2.same _, h.s3.other _ _ _ (by omega), h.s4.other _ _ _ (by omega), h.regs.kept hg (by simp), h.seen.kept hg (fun b hb => by have := Option.some.inj hb; omega), h.mem.kept hg (fun b hb => by have := Option.some.inj hb; omega)⟩

/-- Something more was shown: the row has grown, and its place is stored. -/
theorem PAt.shown (h : PAt w wr rv cv B s k sv mv mb mc G C) (l : List Se) (sv' : Value) (own : SeenOwn w' (B + 2) sv' l) (gr : wr.grownBy w' sv.ownBlock) :
  PAt w (w'.setCell ⟨B, 3, none⟩ sv') rv cv B ⟨s.at_, s.r, s.m, l⟩ k sv' mv mb mc G C := by
 have hl := h.low
 have hrow : ∀ b, sv.ownBlock = some b → B + 2 ≤ b := fun b hb => (World.ownsRow.lt h.seen b hb).1
 have hne : ∀ b, b < B + 2 → some b ≠ sv.ownBlock := fun b hb e => by have := hrow b e.symm; omega
 have hg := grown_set w' B 3 sv'
 have hm : More w w' := h.more.grownBy gr (fun b hb => by have := hrow b hb; omega)
 have q0 := h.size
 exact ⟨hm.grownBy hg (fun b hb => by have := Option.some.inj hb; omega), Nat.lt_of_lt_of_le (Nat.lt_of_lt_of_le h.size gr.size) hg.size, h.low,
  (h.b0.kept gr (hne _ (by omega))).other _ _ _ (by omega), (h.b1.kept gr (hne _ (by omega))).other _ _ _ (by omega), (h.o0.kept gr (hne _ (by omega))).other _ _ _ (by omega), (h.o1.kept gr (hne _ (by omega))).other _ _ _ (by omega),
  (h.o2.kept gr (hne _ (by omega))).other _ _ _ (by omega), (h.o3.kept gr (hne _ (by omega))).other _ _ _ (by omega), (h.o4.kept gr (hne _ (by omega))).other _ _ _ (by omega),
  (h.s0.kept gr (hne _ (by omega))).other _ _ _ (by omega), (h.s1.kept gr (hne _ (by omega))).other _ _ _ (by omega), (h.s2.kept gr (hne _ (by omega))).other _ _ _ (by omega), (h.s3.kept gr (hne _ (by omega))).same _, (h.s4.kept gr (hne _ (by omega))).other _ _ _ (by omega),
  (h.regs.kept gr (hne _ (by omega))).kept hg (by simp), own.kept hg (fun b hb => by have := Option.some.inj hb; omega),
  (h.mem.kept gr (fun b hb => by have := hrow b hb; omega)).kept hg (fun b hb => by have := Option.some.inj hb; omega)⟩

/-- The registers have changed, and nothing else. -/
theorem PAt.regd (h : PAt w wr rv cv B s k sv mv mb mc G C) (r : Nat → Int) (hr : RegsR w' (B + 1) r) (gr : wr.grownBy w' (some (B + 1))) : PAt w w' rv cv B ⟨s.at_, r, s.m, s.seen⟩ k sv mv mb mc G C := by
 have hl := h.low
 have hne : ∀ b, b < B + 1 → some b ≠ some (B + 1) := fun b hb e => by have := Option.some.inj e; omega
 exact ⟨h.more.grownBy gr (fun b hb => by have := Option.some.inj hb; omega), Nat.lt_of_lt_of_le h.size gr.size, h.low, h.b0.kept gr (hne _ (by omega)), h.b1.kept gr (hne _ (by omega)), h.o0.kept gr (hne _ (by omega)), h.o1.kept gr (hne _ (by omega)), h.o2.kept gr (hne _ (by omega)), h.o3.kept gr (hne _ (by omega)), h.o4.kept gr (hne _ (by omega)),
  h.s0.kept gr (hne _ (by omega)), h.s1.kept gr (hne _ (by omega)), h.s2.kept gr (hne _ (by omega)), h.s3.kept gr (hne _ (by omega)), h.s4.kept gr (hne _ (by omega)), hr, h.seen.kept gr (fun b hb => by have := Option.some.inj hb; omega), h.mem.kept gr (fun b hb => by have := Option.some.inj hb; omega)⟩

/-- A word has been put. -/
theorem PAt.worded (h : PAt w wr rv cv B s k sv mv mb mc G C) (c i : Nat) (hc : c < s.m.ml) (hi : i < s.m.len c) (v : Int) :
  PAt w (wr.setCell ⟨G c, i, none⟩ (.int .i64 v)) rv cv B ⟨s.at_, s.r, setW s.m c i v, s.seen⟩ k sv mv mb mc G C := by
 have hl := h.low
 obtain ⟨g0, g1, _⟩ := h.mem.at_ c hc
 have hg := grown_set wr (G c) i (.int .i64 v)
 exact ⟨h.more.grownBy hg (fun b hb => by have := Option.some.inj hb; omega), Nat.lt_of_lt_of_le h.size hg.size, h.low, h.b0.other _ _ _ (by omega), h.b1.other _ _ _ (by omega), h.o0.other _ _ _ (by omega), h.o1.other _ _ _ (by omega), h.o2.other _ _ _ (by omega), h.o3.other _ _ _ (by omega), h.o4.other _ _ _ (by omega),
  h.s0.other _ _ _ (by omega), h.s1.other _ _ _ (by omega), h.s2.other _ _ _ (by omega), h.s3.other _ _ _ (by omega), h.s4.other _ _ _ (by omega), h.regs.kept hg (by simp; omega), h.seen.kept hg (fun b hb => by have := Option.some.inj hb; omega), h.mem.set c i hc hi v⟩

end
end
section
open Go.RowKit
set_option linter.unusedSimpArgs false
set_option linter.unusedVariables false
theorem made_at (j : Nat) (h : j < 10) : (madeCells #[.int .i64 0] 10)[j]? = some (.int .i64 0) := by
 unfold madeCells
 simp [h, Nat.mod_one]

theorem play_start {w w1 : World} {rv cv : Value} {m : Mem} {va : Option Addr} {vc mb mc : Nat} {G C : Nat → Nat} {t u : TypeId}
  (m1 : More ((w.alloc (.cells #[rv, cv] t)).alloc (.cells #[.int .i64 0, .int .i64 0, .int .i64 0, .slice none 0 0, .slice none 0 0] u)) w1) (hs : w.heap.size + 2 ≤ w1.heap.size)
  (hm : MemOwn w1 (w.heap.size + 2) w1.heap.size m (.slice va m.ml vc) mb mc G C) :
  PAt w ((w1.alloc (.cells #[.int .i64 0, .int .i64 0, .int .i64 0, .slice none 0 0, .slice va m.ml vc] 39)).alloc (.cells (madeCells #[.int .i64 0] 10) 2)) rv cv w1.heap.size ⟨0, fun _ => 0, m, []⟩ 0 (.slice none 0 0) (.slice va m.ml vc) mb mc G C := by
 have mw : More w w1 := (((More.refl _).alloc _ _).alloc _ _).trans m1
 have m2 : More w1 ((w1.alloc (.cells #[.int .i64 0, .int .i64 0, .int .i64 0, .slice none 0 0, .slice va m.ml vc] 39)).alloc (.cells (madeCells #[.int .i64 0] 10) 2)) := ((More.refl _).alloc _ _).alloc _ _
 have old : ∀ b o v, Wr ((w.alloc (.cells #[rv, cv] t)).alloc (.cells #[.int .i64 0, .int .i64 0, .int .i64 0, .slice none 0 0, .slice none 0 0] u)) b o v →
   Wr ((w1.alloc (.cells #[.int .i64 0, .int .i64 0, .int .i64 0, .slice none 0 0, .slice va m.ml vc] 39)).alloc (.cells (madeCells #[.int .i64 0] 10) 2)) b o v :=
  fun b o v h => (h.kept (m1.grow none) (by simp)).kept (m2.grow none) (by simp)
 refine ⟨mw.trans m2, by simp, hs, old _ _ _ ⟨by go_simp, by go_simp⟩, old _ _ _ ⟨by go_simp, by go_simp⟩, old _ _ _ ⟨by go_simp, by go_simp⟩, old _ _ _ ⟨by go_simp, by go_simp⟩, old _ _ _ ⟨by go_simp, by go_simp⟩, old _ _ _ ⟨by go_simp, by go_simp⟩, old _ _ _ ⟨by go_simp, by go_simp⟩,
  ⟨by go_simp, by go_simp⟩, ⟨by go_simp, by go_simp⟩, ⟨by go_simp, by go_simp⟩, ⟨by go_simp, by go_simp⟩, ⟨by go_simp, by go_simp⟩, fun j hj => ?_, World.ownsRow_nil _ _ _ _, hm.kept (m2.grow none) (fun b hb => by cases hb)⟩
 have hj2 := made_at j hj
 exact ⟨by go_simp, by go_simp⟩

/-- The result is laid. -/
theorem PAt.ends {w wr : World} {rv cv : Value} {B : Nat} {s : St} {k : Nat} {sv : Value} {va : Option Addr} {n vc : Nat} {mb mc : Nat} {G C : Nat → Nat} (h : PAt w wr rv cv B s k sv (.slice va n vc) mb mc G C) (hb : s.seen.length < 4611686018427387904) (f1 : s.m.ml < 4611686018427387904) (f2 : ∀ i, i < s.m.ml → s.m.len i < 4611686018427387904)
  (hn : n = s.m.ml) {w0 w' : World} (hg0 : wr.grownBy w0 (some B)) (hg : w0.grownBy w' (some (w.heap.size + 1))) (f v t : Int) : ShownAt w' (.agg #[.int .i64 f, .int .i64 v, .int .i64 t, sv, .slice va n vc]) ⟨f, v, t, s.seen, s.m⟩ ∧ More w w' := by
 subst hn
 have hl := h.low
 obtain ⟨l, hv, hi⟩ := ((h.mem.kept hg0 (fun b hb => by have := Option.some.inj hb; omega)).kept hg (fun b hb => by have := Option.some.inj hb; omega)).in_ f1 f2
 exact ⟨⟨sv, l, by dsimp only; rw [hv], ((h.seen.kept hg0 (fun b hb => by have := Option.some.inj hb; omega)).kept hg (fun b hb => by have := Option.some.inj hb; omega)).at_ hb, hi⟩, (h.more.grownBy hg0 (fun b hb => by have := Option.some.inj hb; omega)).grownBy hg (fun b hb => by have := Option.some.inj hb; omega)⟩

theorem PAt.cells {w wr : World} {rv cv : Value} {B : Nat} {s : St} {k : Nat} {sv mv : Value} {mb mc : Nat} {G C : Nat → Nat} (h : PAt w wr rv cv B s k sv mv mb mc G C) :
  wr.cell? ⟨w.heap.size, 0, none⟩ = some rv ∧ wr.cell? ⟨w.heap.size, 1, none⟩ = some cv ∧
  (wr.cell? ⟨w.heap.size + 1, 0, none⟩ = some (.int .i64 0) ∧ wr.frozen? ⟨w.heap.size + 1, 0, none⟩ = false) ∧ (wr.cell? ⟨w.heap.size + 1, 1, none⟩ = some (.int .i64 0) ∧ wr.frozen? ⟨w.heap.size + 1, 1, none⟩ = false) ∧
  (wr.cell? ⟨w.heap.size + 1, 2, none⟩ = some (.int .i64 0) ∧ wr.frozen? ⟨w.heap.size + 1, 2, none⟩ = false) ∧ (wr.cell? ⟨w.heap.size + 1, 3, none⟩ = some (.slice none 0 0) ∧ wr.frozen? ⟨w.heap.size + 1, 3, none⟩ = false) ∧
  (wr.cell? ⟨w.heap.size + 1, 4, none⟩ = some (.slice none 0 0) ∧ wr.frozen? ⟨w.heap.size + 1, 4, none⟩ = false) ∧
  (wr.cell? ⟨B, 0, none⟩ = some (.int .i64 0) ∧ wr.frozen? ⟨B, 0, none⟩ = false) ∧ (wr.cell? ⟨B, 1, none⟩ = some (.int .i64 0) ∧ wr.frozen? ⟨B, 1, none⟩ = false) ∧ (wr.cell? ⟨B, 2, none⟩ = some (.int .i64 k) ∧ wr.frozen? ⟨B, 2, none⟩ = false) ∧
  (wr.cell? ⟨B, 3, none⟩ = some sv ∧ wr.frozen? ⟨B, 3, none⟩ = false) ∧ (wr.cell? ⟨B, 4, none⟩ = some mv ∧ wr.frozen? ⟨B, 4, none⟩ = false) :=
 ⟨h.b0.1, h.b1.1, h.o0, h.o1, h.o2, h.o3, h.o4, h.s0, h.s1, h.s2, h.s3, h.s4⟩
end
section
open Go.RowKit
set_option linter.unusedVariables false
theorem putI_load {i : Ins} (h : i.op = 3 ∨ i.op = 5) : putI i = 0 := by unfold putI; rw [if_pos h]
theorem putI_put {i : Ins} (h : i.op = 4 ∨ i.op = 6) : putI i = 1 := by unfold putI; rw [if_neg (by omega), if_pos h]
theorem putI_no {i : Ins} (h3 : ¬ i.op = 3) (h4 : ¬ i.op = 4) (h5 : ¬ i.op = 5) (h6 : ¬ i.op = 6) : putI i = -1 := by unfold putI; rw [if_neg (by omega), if_neg (by omega)]

theorem step_out {p : Prg} {s : St} {i : Ins} (hI : p.ins s.at_ = i) (hop : i.op = 3 ∨ i.op = 4 ∨ i.op = 5 ∨ i.op = 6) (hx : idxI s.r i < 0 ∨ (s.m.len i.c.toNat : Int) ≤ idxI s.r i) :
  stepI p s = (⟨s.at_ + 1, s.r, s.m, s.seen ++ [⟨1, s.at_, 0⟩]⟩, some (2, 0)) := by
 subst hI
 have hp : 0 ≤ putI (p.ins s.at_) := by
  rcases hop with h | h | h | h
  ·rw [putI_load (.inl h)]; decide
  ·rw [putI_put (.inl h)]; decide
  ·rw [putI_load (.inr h)]; decide
  ·rw [putI_put (.inr h)]; decide
 unfold stepI
 rw [if_neg (by omega), if_neg (by omega), if_neg (by omega), if_pos hp, if_pos hx]

theorem step_put {p : Prg} {s : St} {i : Ins} (hI : p.ins s.at_ = i) (hop : i.op = 4 ∨ i.op = 6) (hx : ¬ (idxI s.r i < 0 ∨ (s.m.len i.c.toNat : Int) ≤ idxI s.r i)) :
  stepI p s = (⟨s.at_ + 1, s.r, setW s.m i.c.toNat (idxI s.r i).toNat (s.r i.a.toNat), s.seen ++ [⟨1, s.at_, 0⟩] ++ [⟨2, baseI p.log i.c.toNat + idxI s.r i, 1⟩]⟩, none) := by
 subst hI
 have hp := putI_put hop
 unfold stepI
 rw [if_neg (by omega), if_neg (by omega), if_neg (by omega), if_pos (by rw [hp]; decide), if_neg hx, if_pos hp]

theorem step_load {p : Prg} {s : St} {i : Ins} (hI : p.ins s.at_ = i) (hop : i.op = 3 ∨ i.op = 5) (hx : ¬ (idxI s.r i < 0 ∨ (s.m.len i.c.toNat : Int) ≤ idxI s.r i)) :
  stepI p s = (⟨s.at_ + 1, setR s.r i.a (s.m.wd i.c.toNat (idxI s.r i).toNat), s.m, s.seen ++ [⟨1, s.at_, 0⟩] ++ [⟨2, baseI p.log i.c.toNat + idxI s.r i, 0⟩]⟩, none) := by
 subst hI
 have hp := putI_load hop
 unfold stepI
 rw [if_neg (by omega), if_neg (by omega), if_neg (by omega), if_pos (by rw [hp]; decide), if_neg hx, if_neg (by rw [hp]; decide)]

theorem step_regs {p : Prg} {s : St} {i : Ins} (hI : p.ins s.at_ = i) (h3 : ¬ i.op = 3) (h4 : ¬ i.op = 4) (h5 : ¬ i.op = 5) (h6 : ¬ i.op = 6) (h7 : ¬ i.op = 7) (h8 : ¬ i.op = 8) (h9 : ¬ i.op = 9) :
  stepI p s = (⟨s.at_ + 1, (regsI s.r i).1, s.m, s.seen ++ [⟨1, s.at_, 0⟩] ++ (regsI s.r i).2⟩, none) := by
 subst hI
 have hp := putI_no h3 h4 h5 h6
 unfold stepI
 rw [if_neg h7, if_neg h8, if_neg h9, if_neg (by rw [hp]; decide)]

theorem run_next {p : Prg} {g k : Nat} {s s' : St} {R : Sh} (h : runI p (g + 1) k s = R) (hat : s.at_ < p.cl) (e : stepI p s = (s', none)) : runI p g (k + 1) s' = R := by
 rw [runI, if_neg (by omega), e] at h
 exact h
theorem run_stop {p : Prg} {g k : Nat} {s s' : St} {R : Sh} {f v : Int} (h : runI p (g + 1) k s = R) (hat : s.at_ < p.cl) (e : stepI p s = (s', some (f, v))) : R = ⟨f, v, (k : Int) + 1, s'.seen, s'.m⟩ := by
 rw [runI, if_neg (by omega), e] at h
 exact h.symm
end
section
open Go.RowKit
set_option linter.unusedSimpArgs false
set_option linter.unusedVariables false
theorem opI_B64 (o x y : Int) : B64 (opI o x y) := by
 unfold opI
 repeat' split
 all_goals first | exact B64_wrap _ | exact B64_zero

theorem setR_B64 {r : Nat → Int} (hr : ∀ j, j < 10 → B64 (r j)) (a v : Int) (hv : B64 v) : ∀ j, j < 10 → B64 (setR r a v j) := by
 intro j hj
 unfold setR
 split
 ·exact hv
 ·exact hr j hj

theorem regsI_B64 {r : Nat → Int} (hr : ∀ j, j < 10 → B64 (r j)) (i : Ins) (hb : i.op = 2 → i.b.toNat < 10) (hn : B64 i.n) : ∀ j, j < 10 → B64 ((regsI r i).1 j) := by
 unfold regsI
 by_cases h1 : i.op = 1
 ·rw [if_pos h1]; exact setR_B64 hr _ _ hn
 rw [if_neg h1]
 by_cases h2 : i.op = 2
 ·rw [if_pos h2]; exact setR_B64 hr _ _ (hr _ (hb h2))
 rw [if_neg h2]
 by_cases h3 : i.op = 10
 ·rw [if_pos h3]; exact setR_B64 hr _ _ (B64_wrap _)
 rw [if_neg h3]
 by_cases h4 : i.op = 11
 ·rw [if_pos h4]
  dsimp only
  split
  ·exact setR_B64 hr _ _ B64_zero
  ·exact hr
 rw [if_neg h4]
 by_cases h5 : i.op = 12
 ·rw [if_pos h5]; exact hr
 rw [if_neg h5]
 exact setR_B64 hr _ _ (opI_B64 _ _ _)
theorem regsI_len (r : Nat → Int) (i : Ins) : (regsI r i).2.length ≤ 1 := by
 unfold regsI
 repeat' split
 all_goals first | exact Nat.zero_le _ | exact Nat.le_refl _

theorem step_inv {p : Prg} {m : Mem} {k : Nat} {s : St} (h : Inv p m k s) (hat : s.at_ < p.cl) (hin : InsOk p.rl p.log p.cl 10 (p.ins s.at_)) (hn : B64 (p.ins s.at_).n) (hrl : m.ml = p.rl) : Inv p m (k + 1) (stepI p s).1 := by
 have hseen := h.seen
 have hl1 : ∀ l : List Se, l.length ≤ 1 → (s.seen ++ [(⟨1, s.at_, 0⟩ : Se)] ++ l).length ≤ 2 * (k + 1) := fun l hl => by simp; omega
 have hl0 : (s.seen ++ [(⟨1, s.at_, 0⟩ : Se)]).length ≤ 2 * (k + 1) := by simp; omega
 unfold stepI
 by_cases h7 : (p.ins s.at_).op = 7
 ·rw [if_pos h7]
  have : 0 ≤ (p.ins s.at_).n ∧ (p.ins s.at_).n < p.cl := by unfold InsOk Plc at hin; simp [h7] at hin; exact hin.2.2.2
  exact ⟨by dsimp only; omega, h.r, h.ml, h.len, h.wd, hl0⟩
 rw [if_neg h7]
 by_cases h8 : (p.ins s.at_).op = 8
 ·rw [if_pos h8]
  have : 0 ≤ (p.ins s.at_).n ∧ (p.ins s.at_).n < p.cl := by unfold InsOk Plc at hin; simp [h8] at hin; exact hin.2.2.2
  refine ⟨?_, h.r, h.ml, h.len, h.wd, hl0⟩
  dsimp only
  split <;> omega
 rw [if_neg h8]
 by_cases h9 : (p.ins s.at_).op = 9
 ·rw [if_pos h9]; exact ⟨by dsimp only; omega, h.r, h.ml, h.len, h.wd, hl0⟩
 rw [if_neg h9]
 by_cases hp : 0 ≤ putI (p.ins s.at_)
 ·rw [if_pos hp]
  have hop : (p.ins s.at_).op = 3 ∨ (p.ins s.at_).op = 4 ∨ (p.ins s.at_).op = 5 ∨ (p.ins s.at_).op = 6 := by
   unfold putI at hp
   by_cases e1 : (p.ins s.at_).op = 3 ∨ (p.ins s.at_).op = 5
   ·omega
   ·rw [if_neg e1] at hp
    by_cases e2 : (p.ins s.at_).op = 4 ∨ (p.ins s.at_).op = 6
    ·omega
    ·rw [if_neg e2] at hp; omega
  have hc : (p.ins s.at_).c.toNat < m.ml ∧ (p.ins s.at_).a.toNat < 10 := by
   unfold InsOk Reg Rgn at hin
   rcases hop with e | e | e | e <;> simp [e] at hin <;> omega
  by_cases hx : idxI s.r (p.ins s.at_) < 0 ∨ (s.m.len (p.ins s.at_).c.toNat : Int) ≤ idxI s.r (p.ins s.at_)
  ·rw [if_pos hx]; exact ⟨by dsimp only; omega, h.r, h.ml, h.len, h.wd, hl0⟩
  rw [if_neg hx]
  have hlen := h.len (p.ins s.at_).c.toNat
  by_cases h1 : putI (p.ins s.at_) = 1
  ·rw [if_pos h1]
   refine ⟨by dsimp only; omega, h.r, h.ml, h.len, fun j hj i hi => ?_, hl1 _ (Nat.le_refl _)⟩
   dsimp only [setW]
   split
   ·exact h.r _ hc.2
   ·exact h.wd j hj i hi
  ·rw [if_neg h1]
   exact ⟨by dsimp only; omega, setR_B64 h.r _ _ (h.wd _ hc.1 _ (by omega)), h.ml, h.len, h.wd, hl1 _ (Nat.le_refl _)⟩
 rw [if_neg hp]
 refine ⟨by dsimp only; omega, regsI_B64 h.r _ (fun e => ?_) hn, h.ml, h.len, h.wd, hl1 _ (regsI_len _ _)⟩
 unfold InsOk Reg at hin
 simp [e] at hin
 omega

def baseN (len : Nat → Nat) : Nat → Nat
 | 0 => 0
 | k + 1 => baseN len k + len k
theorem baseN_le (len : Nat → Nat) : ∀ k, (∀ j, j < k → len j ≤ 64) → baseN len k ≤ 64 * k
 | 0, _ => by simp [baseN]
 | k + 1, h => by
  have := baseN_le len k (fun j hj => h j (by omega))
  have := h k (by omega)
  simp only [baseN]
  omega
theorem base_eq (p : Prg) (m : Mem) (hlen : ∀ i, i < m.ml → (m.len i : Int) = wordsI (p.log i)) : ∀ j, j ≤ m.ml → (baseN m.len j : Int) = baseI p.log j
 | 0, _ => rfl
 | j + 1, h => by
  simp only [baseN, baseI]
  rw [← base_eq p m hlen j (by omega), ← hlen j (by omega)]
  push_cast
  rfl
theorem hid_ofP {P : Prop} (h : P) : Hid P := h
theorem info47 : (Try.prog.info? 73).map (fun i => (i.zero, i.size, i.bytes)) = some (some (.agg #[.int .i64 0, .int .i64 0, .int .i64 0]), 3, 24) := by kernel_rfl
theorem cell_three_new (w : World) (x y z : Value) (t : TypeId) : ∀ j u, [x, y, z][j]? = some u → (w.alloc (.cells #[x, y, z] t)).cell? ((⟨w.heap.size, 0, none⟩ : Addr).add j) = some u := by
 intro j u h
 rw [Go.WideShapes.add_plain]
 have hj : j = 0 ∨ j = 1 ∨ j = 2 := by have := (List.getElem?_eq_some_iff.1 h).1; simp at this; omega
 rcases hj with rfl | rfl | rfl <;> (simp at h; subst h; go_simp)

theorem PAt.jump {w wr : World} {rv cv : Value} {B : Nat} {s : St} {k : Nat} {sv mv : Value} {mb mc : Nat} {G C : Nat → Nat} (h : PAt w wr rv cv B s k sv mv mb mc G C) (n : Nat) : PAt w wr rv cv B ⟨n, s.r, s.m, s.seen⟩ k sv mv mb mc G C :=
 ⟨h.more, h.size, h.low, h.b0, h.b1, h.o0, h.o1, h.o2, h.o3, h.o4, h.s0, h.s1, h.s2, h.s3, h.s4, h.regs, h.seen, h.mem⟩

set_option maxHeartbeats 2000000 in
set_option maxRecDepth 8000 in
theorem ref_play (p : Prg) (l : Loc) (m : Mem) (ml : MLoc) (fuel : Nat) (w : World) (hp : PIn w p l) (hm : MIn w m ml) (hok : p.Ok 8000 10) (hfit : p.Fit) (hml : m.ml = p.rl) (hlen : ∀ i, i < m.ml → (m.len i : Int) = wordsI (p.log i))
  (hwd : ∀ j, j < m.ml → ∀ i, i < m.len j → B64 (m.wd j i)) (hfuel : fuel ≤ 40000) :
  Calls Try.prog 13 #[.agg #[.slice l.ra p.rl l.rc, .slice l.ca p.cl l.cc], .slice ml.ma m.ml ml.mc, .int .i64 fuel] w fun e w' => ∃ v, e = .returned v ∧ ShownAt w' v (playI p m fuel) ∧ More w w' := by
 obtain ⟨ra, rb, ro, rc, ca, cb, co, cc⟩ := l
 dsimp only
 have H : Hid (PIn w p ⟨ra, rb, ro, rc, ca, cb, co, cc⟩ ∧ MIn w m ml ∧ p.Ok 8000 10 ∧ p.Fit ∧ m.ml = p.rl ∧ (∀ i, i < m.ml → (m.len i : Int) = wordsI (p.log i)) ∧ (∀ j, j < m.ml → ∀ i, i < m.len j → B64 (m.wd j i)) ∧ fuel ≤ 40000) := ⟨hp, hm, hok, hfit, hml, hlen, hwd, hfuel⟩
 have Hlen : Hid (m.ml ≤ 6 ∧ ∀ i, i < m.ml → 0 < m.len i ∧ m.len i ≤ 64) := by
  refine ⟨by rw [hml]; exact hok.1.1, fun i hi => ?_⟩
  have h1 := hlen i hi
  have h2 := hok.1.2 i (by rw [← hml]; exact hi)
  have h3 := two_pow_le (k := (p.log i).toNat) (by omega)
  unfold wordsI at h1
  omega
 obtain ⟨i2, hi2, hz0, hz1, hz2⟩ := info_parts info47
 have Hi : Hid (Try.prog.info? 73 = some i2 ∧ i2.zero = some (.agg #[.int .i64 0, .int .i64 0, .int .i64 0]) ∧ i2.size = 3 ∧ i2.bytes = 24) := ⟨hi2, hz0, hz1, hz2⟩
 clear hi2 hz0 hz1 hz2
 obtain ⟨R, HR⟩ : ∃ R, Hid (playI p m fuel = R) := ⟨_, rfl⟩
 rw [HR.out]
 clear hp hm hok hfit hml hlen hwd hfuel
 go_enter Try.func13, Try.ntmps13
 go_wp2_with (fail)
 have m0 : More w ((w.alloc (.cells #[.slice ra p.rl rc, .slice ca p.cl cc] 25)).alloc (.cells #[.int .i64 0, .int .i64 0, .int .i64 0, .slice none 0 0, .slice none 0 0] 39)) := ((More.refl _).alloc _ _).alloc _ _
 refine (ref_copy m ml _ (H.out.2.1.more m0) Hlen.out.1 Hlen.out.2).mono ?_
 rintro e w1 ⟨mv, G, C, rfl, cp, m1⟩
 obtain ⟨va, vc, rfl⟩ := own_form cp.own
 have Hcp : Hid (CpAt w1 (w.heap.size + 2) m m.ml (.slice va m.ml vc) G C) := (by simpa using cp : CpAt w1 (w.heap.size + 2) m m.ml (.slice va m.ml vc) G C)
 have Hm1 : Hid (More ((w.alloc (.cells #[.slice ra p.rl rc, .slice ca p.cl cc] 25)).alloc (.cells #[.int .i64 0, .int .i64 0, .int .i64 0, .slice none 0 0, .slice none 0 0] 39)) w1) := m1
 clear cp m1 m0
 have hmk := run_make_row' (P := Try.prog) 70 2 (.int .i64 0) 8 Try.underlying70 info2 rfl .i64 .i64 10 (by decide) (by decide)
 push_cast at hmk
 go_wp2
 obtain ⟨mb, mc, hmo⟩ := Hcp.out.own_
 have hs1 : w.heap.size + 2 ≤ w1.heap.size := by have := Hm1.out.size; simpa using this
 have HP0 : Hid (PAt w ((w1.alloc (.cells #[.int .i64 0, .int .i64 0, .int .i64 0, .slice none 0 0, .slice va m.ml vc] 39)).alloc (.cells (madeCells #[.int .i64 0] 10) 2)) (.slice ra p.rl rc) (.slice ca p.cl cc) w1.heap.size ⟨0, fun _ => 0, m, []⟩ 0 (.slice none 0 0) (.slice va m.ml vc) mb mc G C) :=
  play_start Hm1.out hs1 hmo
 clear hmk hmo
 go_loopg [9] fuel (fun g i wr => ∃ (k : Nat) (s : St) (sv : Value), k + g = fuel ∧ i = .int .i64 s.at_ ∧ PAt w wr (.slice ra p.rl rc) (.slice ca p.cl cc) w1.heap.size s k sv (.slice va m.ml vc) mb mc G C ∧ Inv p m k s ∧ runI p g k s = R)
 case atStart => exact ⟨0, ⟨0, fun _ => 0, m, []⟩, .slice none 0 0, by omega, rfl, HP0.out, ⟨Nat.zero_le _, fun _ _ => B64_zero, rfl, fun _ => rfl, H.out.2.2.2.2.2.2.1, by simp⟩, HR.out⟩
 case round =>
  obtain ⟨k, s, sv, hkg, rfl, hP, hI, hrun⟩ := hrel
  obtain ⟨at_, r, mm, se⟩ := s
  obtain ⟨sa, sc, rfl⟩ := own_form hP.seen
  have HP : Hid (PAt w wr (.slice ra p.rl rc) (.slice ca p.cl cc) w1.heap.size ⟨at_, r, mm, se⟩ k (.slice sa se.length sc) (.slice va m.ml vc) mb mc G C) := hP
  have HI : Hid (Inv p m k ⟨at_, r, mm, se⟩) := hI
  have Hrun : Hid (runI p gk k ⟨at_, r, mm, se⟩ = R) := hrun
  clear hP hI hrun HP0 hs1
  obtain ⟨b0, b1, o0, o1, o2, o3, o4, s0, s1, s2, s3, s4⟩ := HP.out.cells
  have hlow := HP.out.low
  have n1 : ¬ w1.heap.size = w.heap.size + 1 := by omega
  have n2 : ¬ w.heap.size + 1 = w1.heap.size := by omega
  have n3 : ¬ w1.heap.size = w.heap.size := by omega
  have n4 : ¬ w.heap.size = w1.heap.size := by omega
  clear hlow
  cases gk with
  | zero =>
   obtain rfl : k = fuel := by omega
   go_wp2
   refine bodyPost_ret (v := .agg #[.int .i64 0, .int .i64 0, .int .i64 k, .slice sa se.length sc, .slice va m.ml vc]) (by simp [results, Try.results13, go_sem, *]) rfl ⟨_, rfl, ?_⟩
   rw [← Hrun.out]
   exact HP.out.ends (by have := HI.out.seen; have := H.out.2.2.2.2.2.2.2; dsimp only at *; omega) (by have := HI.out.ml; have := Hlen.out.1; dsimp only at *; omega) (fun i hi => by have := HI.out.len i; have := (Hlen.out.2 i (by have := HI.out.ml; dsimp only at *; omega)).2; dsimp only at *; omega) HI.out.ml.symm (w0 := wr) (grown_refl _ _) (gr_set (gr_set (gr_set (gr_set (gr_set (grown_refl _ _) _ _) _ _) _ _) _ _) _ _) 0 0 k
  | succ g =>
   have hk' : (k : Int) < (fuel : Int) := by omega
   have Hb1 : Hid (se.length < 4611686018427387904) := (by have := HI.out.seen; have := H.out.2.2.2.2.2.2.2; dsimp only at *; omega : se.length < 4611686018427387904)
   have Hb2 : Hid (mm.ml < 4611686018427387904) := (by have := HI.out.ml; have := Hlen.out.1; dsimp only at *; omega : mm.ml < 4611686018427387904)
   have Hb3 : Hid (∀ i, i < mm.ml → mm.len i < 4611686018427387904) := fun i hi => by have := HI.out.len i; have := (Hlen.out.2 i (by have := HI.out.ml; dsimp only at *; omega)).2; dsimp only at *; omega
   by_cases hat : p.cl ≤ at_
   ·have hat' : (p.cl : Int) ≤ (at_ : Int) := by omega
    have HR2 : Hid (R = ⟨2, 0, k, se, mm⟩) := by rw [← Hrun.out, runI, if_pos hat]; rfl
    clear Hrun
    go_wp2
    refine bodyPost_ret (v := .agg #[.int .i64 2, .int .i64 0, .int .i64 k, .slice sa se.length sc, .slice va m.ml vc]) (by simp [results, Try.results13, go_sem, *]) rfl ⟨_, rfl, ?_⟩
    rw [HR2.out]
    exact HP.out.ends Hb1.out Hb2.out Hb3.out HI.out.ml.symm (w0 := wr.setCell ⟨w1.heap.size, 0, none⟩ (.int .i64 2)) (grown_set _ _ _ _) (gr_set (gr_set (gr_set (gr_set (gr_set (grown_refl _ _) _ _) _ _) _ _) _ _) _ _) 2 0 k
   ·have hat' : (at_ : Int) < (p.cl : Int) := by omega
    have hat0 : (0 : Int) ≤ (at_ : Int) := by omega
    have Hat : Hid (at_ < p.cl) := (by omega : at_ < p.cl)
    obtain rfl : ca = some ⟨cb, co, none⟩ := H.out.1.hc (by omega)
    have hcell := (H.out.1.code.more HP.out.more) at_ Hat.out
    cases hI : p.ins at_ with
    | mk op a b c n =>
    rw [hI] at hcell
    have HIn : Hid (p.ins at_ = ⟨op, a, b, c, n⟩) := hI
    clear hI
    obtain ⟨q0, q1, q2, q3, q4⟩ := hcell
    dsimp only at q0 q1 q2 q3 q4
    have hwk : wrap64 ((k : Int) + 1) = (k : Int) + 1 := by unfold wrap64; have := H.out.2.2.2.2.2.2.2; omega
    have hB : w1.heap.size < wr.heap.size := by have := HP.out.size; omega
    have HPW : Hid (PAt w (((wr.setCell ⟨w1.heap.size, 2, none⟩ (.int .i64 ((k : Int) + 1))).alloc (.cells #[.int .i64 op, .int .i64 a, .int .i64 b, .int .i64 c, .int .i64 n] 59)).alloc (.cells #[.int .i64 1, .int .i64 at_, .int .i64 0] 73)) (.slice ra p.rl rc) (.slice (some ⟨cb, co, none⟩) p.cl cc) w1.heap.size ⟨at_, r, mm, se⟩ (k + 1) (.slice sa se.length sc) (.slice va m.ml vc) mb mc G C) :=
     ((HP.out.steps (k + 1) _ (by push_cast; rfl)).alloc _).alloc _
    have Hsl : Hid (se.length ≤ 2 * k) := HI.out.seen
    have Hrow : Hid (∀ b, b < w1.heap.size + 2 → some b ≠ (Value.slice sa se.length sc).ownBlock) := fun b hb e => by have := (World.ownsRow.lt HP.out.seen b e.symm).1; omega
    have Hnew : Hid (some wr.heap.size ≠ (Value.slice sa se.length sc).ownBlock) := fun e => by have := (World.ownsRow.lt HP.out.seen _ e.symm).2; omega
    have n5 : ¬ w1.heap.size = wr.heap.size := by omega
    have n6 : ¬ wr.heap.size = w1.heap.size := by omega
    have hwa : wrap64 ((at_ : Int) + 1) = (at_ : Int) + 1 := by unfold wrap64; have := H.out.2.2.1.2.2.1; omega
    clear o0 o1 o2 o3 o4
    go_wp2_with (at_builtin; refine wpList_append_lies _ rfl (.tmp 41) (.tmp 44) 37 rfl (w1.heap.size + 2) 73 i2 (.agg #[.int .i64 0, .int .i64 0, .int .i64 0]) 3 24 Try.underlying37 Hi.out.1 Hi.out.2.1 Hi.out.2.2.1 Hi.out.2.2.2 rfl (by decide) (.slice sa se.length sc) se.length (flatS se) rfl HPW.out.seen ⟨wr.heap.size + 1, 0, none⟩ 1 1 [.int .i64 1, .int .i64 at_, .int .i64 0] rfl rfl (by simpa using cell_three_new ((wr.setCell ⟨w1.heap.size, 2, none⟩ (.int .i64 ((k : Int) + 1))).alloc (.cells #[.int .i64 op, .int .i64 a, .int .i64 b, .int .i64 c, .int .i64 n] 59)) (.int .i64 1) (.int .i64 at_) (.int .i64 0) 73) (fun x hx => by simp at hx; rcases hx with rfl | rfl | rfl <;> rfl) (by decide) (by have := Hb1.out; unfold maxLen; omega) (by have := Hsl.out; have := H.out.2.2.2.2.2.2.2; omega) (by have := HPW.out.size; omega) (wr.heap.size + 2) (by simp) ?_; intro g_ cap w2 own2 gr2 hat2 hlt2; obtain ⟨t3c, t3f⟩ := HPW.out.s3.kept gr2 (Hrow.out _ (by omega)); have j0 : w2.cell? ⟨wr.heap.size, 0, none⟩ = some (.int .i64 op) := gr2.cell (by go_simp) Hnew.out; have j1 : w2.cell? ⟨wr.heap.size, 1, none⟩ = some (.int .i64 a) := gr2.cell (by go_simp) Hnew.out; have j2 : w2.cell? ⟨wr.heap.size, 2, none⟩ = some (.int .i64 b) := gr2.cell (by go_simp) Hnew.out; have j3 : w2.cell? ⟨wr.heap.size, 3, none⟩ = some (.int .i64 c) := gr2.cell (by go_simp) Hnew.out; have j4 : w2.cell? ⟨wr.heap.size, 4, none⟩ = some (.int .i64 n) := gr2.cell (by go_simp) Hnew.out)
    have HP3 : Hid (PAt w (w2.setCell ⟨w1.heap.size, 3, none⟩ (.slice (some ⟨g_, 0, none⟩) (se.length + 1) cap)) (.slice ra p.rl rc) (.slice (some ⟨cb, co, none⟩) p.cl cc) w1.heap.size ⟨at_, r, mm, se ++ [⟨1, at_, 0⟩]⟩ (k + 1) (.slice (some ⟨g_, 0, none⟩) (se.length + 1) cap) (.slice va m.ml vc) mb mc G C) :=
     HPW.out.shown _ _ (by unfold SeenOwn; rw [flatS_append, List.length_append]; exact own2) gr2
    have hg3 := grown_set w2 w1.heap.size 3 (.slice (some ⟨g_, 0, none⟩) (se.length + 1) cap)
    have Hg_ : Hid (¬ wr.heap.size = g_) := fun e => by
     rcases hat2 with h1 | h1
     ·exact Hnew.out (by rw [h1, e])
     ·omega
    replace j0 := hg3.cell j0 (by simp; omega)
    replace j1 := hg3.cell j1 (by simp; omega)
    replace j2 := hg3.cell j2 (by simp; omega)
    replace j3 := hg3.cell j3 (by simp; omega)
    replace j4 := hg3.cell j4 (by simp; omega)
    obtain ⟨w3, hw3⟩ : ∃ w3, w2.setCell ⟨w1.heap.size, 3, none⟩ (.slice (some ⟨g_, 0, none⟩) (se.length + 1) cap) = w3 := ⟨_, rfl⟩
    rw [hw3] at HP3 j0 j1 j2 j3 j4 ⊢
    clear hw3 hg3 own2 gr2 hat2 hlt2 t3c t3f b0 b1 s0 s1 s2 s3 s4 q0 q1 q2 q3 q4
    refine (ref_put op a b c n _).mono ?_
    rintro e w4 ⟨rfl, m4⟩
    replace j0 := m4.cell j0
    replace j1 := m4.cell j1
    replace j2 := m4.cell j2
    replace j3 := m4.cell j3
    replace j4 := m4.cell j4
    have HP4 : Hid (PAt w w4 (.slice ra p.rl rc) (.slice (some ⟨cb, co, none⟩) p.cl cc) w1.heap.size ⟨at_, r, mm, se ++ [⟨1, at_, 0⟩]⟩ (k + 1) (.slice (some ⟨g_, 0, none⟩) (se.length + 1) cap) (.slice va m.ml vc) mb mc G C) := HP3.out.on m4
    clear HP3 m4
    have Hin : Hid (InsOk p.rl p.log p.cl 10 ⟨op, a, b, c, n⟩) := by have := H.out.2.2.1.2.2.2 at_ Hat.out; rw [HIn.out] at this; exact this
    obtain ⟨pu, hpu⟩ : ∃ x, putI ⟨op, a, b, c, n⟩ = x := ⟨_, rfl⟩
    rw [hpu]
    have Hpu : Hid (putI ⟨op, a, b, c, n⟩ = pu) := hpu
    clear hpu
    by_cases h7 : op = 7
    ·subst h7
     have Hn : Hid (0 ≤ n ∧ n < p.cl) := by have h := Hin.out; unfold InsOk at h; simp at h; exact h.2.2.2
     have HR2 : Hid (runI p g (k + 1) ⟨n.toNat, r, mm, se ++ [⟨1, at_, 0⟩]⟩ = R) := by
      show _ = _
      have e9 := Hrun.out
      rw [runI, if_neg (by have := Hat.out; first | omega | (dsimp only; omega))] at e9
      rw [← e9]
      simp [stepI, HIn.out]
     go_wp2
     go_roundg g
     case measure => omega
     case rel =>
      refine ⟨k + 1, _, _, by omega, ?_, HP4.out.jump n.toNat, ?_, HR2.out⟩
      ·have := Hn.out.1; dsimp only; rw [show ((n.toNat : Nat) : Int) = n by omega]
      ·exact ⟨by have := Hn.out; dsimp only; omega, HI.out.r, HI.out.ml, HI.out.len, HI.out.wd, by have := Hsl.out; dsimp only; simp; omega⟩
    by_cases h8 : op = 8
    ·subst h8
     have Hi8 : Hid ((0 ≤ a ∧ a < 10) ∧ (0 ≤ b ∧ b < 10) ∧ (0 ≤ n ∧ n < p.cl)) := by have h := Hin.out; unfold InsOk at h; simp at h; exact ⟨h.1, h.2.1, h.2.2.2⟩
     obtain ⟨⟨a0, a1⟩, ⟨b0', b1'⟩, _, _⟩ := Hi8.out
     have ya := (HP4.out.regs a.toNat (by omega)).1
     have yb := (HP4.out.regs b.toNat (by omega)).1
     have ba := HI.out.r a.toNat (by omega)
     have bb := HI.out.r b.toNat (by omega)
     dsimp only at ya yb ba bb
     have Hh : Hid (∀ w : World, Calls Try.prog 32 #[.int .i64 c, .int .i64 (r a.toNat), .int .i64 (r b.toNat)] w fun e w' => e = .returned (.bool (holdsI c (r a.toNat) (r b.toNat))) ∧ More w w') := fun w => ref_holds _ _ _ ba.1 ba.2 bb.1 bb.2 w
     have HR2 : Hid (runI p g (k + 1) ⟨if holdsI c (r a.toNat) (r b.toNat) = true then n.toNat else at_ + 1, r, mm, se ++ [⟨1, at_, 0⟩]⟩ = R) := by
      show _ = _
      have e9 := Hrun.out
      rw [runI, if_neg (by have := Hat.out; first | omega | (dsimp only; omega))] at e9
      rw [← e9]
      simp [stepI, HIn.out]
     obtain ⟨h, hh⟩ : ∃ x, holdsI c (r a.toNat) (r b.toNat) = x := ⟨_, rfl⟩
     rw [hh] at Hh HR2
     clear hh ba bb
     obtain ⟨S, HS⟩ : ∃ S : World → Prop, Hid (∀ w', S w' ↔ More w4 w') := ⟨fun w' => More w4 w', fun _ => Iff.rfl⟩
     have k1 : ∀ i : { w' // S w' }, i.val.cell? ⟨wr.heap.size, 1, none⟩ = some (.int .i64 a) := fun i => ((HS.out _).1 i.property).cell j1
     have k2 : ∀ i : { w' // S w' }, i.val.cell? ⟨wr.heap.size, 2, none⟩ = some (.int .i64 b) := fun i => ((HS.out _).1 i.property).cell j2
     have k3 : ∀ i : { w' // S w' }, i.val.cell? ⟨wr.heap.size, 3, none⟩ = some (.int .i64 c) := fun i => ((HS.out _).1 i.property).cell j3
     have ka : ∀ i : { w' // S w' }, i.val.cell? ⟨w1.heap.size + 1, a.toNat, none⟩ = some (.int .i64 (r a.toNat)) := fun i => ((HS.out _).1 i.property).cell ya
     have kb : ∀ i : { w' // S w' }, i.val.cell? ⟨w1.heap.size + 1, b.toNat, none⟩ = some (.int .i64 (r b.toNat)) := fun i => ((HS.out _).1 i.property).cell yb
     have hne : Nonempty { w' // S w' } := ⟨⟨w4, (HS.out _).2 (More.refl _)⟩⟩
     go_wp2_with (fail)
     refine wp_region_ord (S := S) [(0, true), (1, true), (2, true), (3, true), (4, true), (5, true), (6, true), (7, true), (8, true), (9, true), (10, true), (11, true), (12, false)] (by kernel_rfl) (by kernel_rfl) (by kernel_rfl) ((HS.out _).2 (More.refl _).drew) ?_
     iterate 12 (refine wpOrd_take rfl (by kernel_rfl) (fun K hK => ?_); go_simp; refine hK _ _ ?_; clear hK K)
     refine wpOrd_busy rfl (by kernel_rfl) (fun K hK => ?_); go_simp
     refine (Hh.out _).mono ?_
     rintro e w5 ⟨rfl, m5⟩
     have Hm5 : Hid (More w4 w5) := (More.refl _).drew.trans m5
     clear m5
     go_simp
     refine hK _ _ ((HS.out _).2 Hm5.out) ?_; clear hK K
     refine wpOrd_done ?_
     clear k1 k2 k3 ka kb hne ya yb
     have j4' := Hm5.out.cell j4
     cases h with
     | true =>
      go_wp2
      go_roundg g
      case measure => omega
      case rel =>
       refine ⟨k + 1, _, _, by omega, ?_, (HP4.out.on Hm5.out).jump n.toNat, ?_, HR2.out⟩
       ·have := Hi8.out.2.2.1; dsimp only; rw [show ((n.toNat : Nat) : Int) = n by omega]
       ·exact ⟨by have := Hi8.out.2.2; dsimp only; omega, HI.out.r, HI.out.ml, HI.out.len, HI.out.wd, by have := Hsl.out; dsimp only; simp; omega⟩
     | false =>
      go_wp2
      go_roundg g
      case measure => omega
      case rel =>
       refine ⟨k + 1, _, _, by omega, ?_, (HP4.out.on Hm5.out).jump (at_ + 1), ?_, HR2.out⟩
       ·dsimp only; first | rfl | (simp; exact hwa) | (rw [hwa]; push_cast; rfl)
       ·exact ⟨by have := Hat.out; dsimp only; omega, HI.out.r, HI.out.ml, HI.out.len, HI.out.wd, by have := Hsl.out; dsimp only; simp; omega⟩
    by_cases h9 : op = 9
    ·subst h9
     have Hi9 : Hid (0 ≤ a ∧ a < 10) := by have h := Hin.out; unfold InsOk at h; simp at h; exact h.1
     obtain ⟨a0, a1⟩ := Hi9.out
     have ya := (HP4.out.regs a.toNat (by omega)).1
     dsimp only at ya
     obtain ⟨b0, b1, o0, o1, o2, o3, o4, s0, s1, s2, s3, s4⟩ := HP4.out.cells
     push_cast at s2
     have HR2 : Hid (R = ⟨1, r a.toNat, (k : Int) + 1, se ++ [⟨1, at_, 0⟩], mm⟩) := by
      show _ = _
      have e9 := Hrun.out
      rw [runI, if_neg (by have := Hat.out; first | omega | (dsimp only; omega))] at e9
      rw [← e9]
      simp [stepI, HIn.out]
     clear Hrun
     obtain ⟨y, hy⟩ : ∃ y, r a.toNat = y := ⟨_, rfl⟩
     rw [hy] at ya HR2
     clear hy
     go_wp2
     refine bodyPost_ret (v := .agg #[.int .i64 1, .int .i64 y, .int .i64 ((k : Int) + 1), .slice (some ⟨g_, 0, none⟩) (se.length + 1) cap, .slice va m.ml vc]) (by simp [results, Try.results13, go_sem, *]) rfl ⟨_, rfl, ?_⟩
     rw [HR2.out]
     exact HP4.out.ends (by have := Hb1.out; have := Hsl.out; have := H.out.2.2.2.2.2.2.2; dsimp only; simp; omega) Hb2.out Hb3.out HI.out.ml.symm (w0 := (w4.setCell ⟨w1.heap.size, 0, none⟩ (.int .i64 1)).setCell ⟨w1.heap.size, 1, none⟩ (.int .i64 y)) (gr_set (grown_set _ _ _ _) _ _) (gr_set (gr_set (gr_set (gr_set (gr_set (grown_refl _ _) _ _) _ _) _ _) _ _) _ _) 1 y ((k : Int) + 1)
    have Hinv : Hid (∀ s', (stepI p ⟨at_, r, mm, se⟩).1 = s' → Inv p m (k + 1) s') := by
     intro s' e
     rw [← e]
     refine step_inv HI.out Hat.out ?_ ?_ H.out.2.2.2.2.1
     ·show InsOk p.rl p.log p.cl 10 (p.ins at_)
      rw [HIn.out]; exact Hin.out
     ·exact (H.out.2.2.2.1.ins at_ Hat.out).2.2.2.2
    by_cases hop : op = 3 ∨ op = 4 ∨ op = 5 ∨ op = 6
    ·have Hw : Hid ((0 ≤ a ∧ a < 10) ∧ (0 ≤ b ∧ b < 10) ∧ (0 ≤ c ∧ c < p.rl)) := by
      have h := Hin.out
      unfold InsOk Reg Rgn at h
      dsimp only at h
      rcases hop with rfl | rfl | rfl | rfl <;> simp at h <;> exact ⟨by omega, by omega, by omega⟩
     have hpu0 : 0 ≤ pu := by
      rw [← Hpu.out]
      rcases hop with h | h | h | h
      ·rw [putI_load (.inl h)]; decide
      ·rw [putI_put (.inl h)]; decide
      ·rw [putI_load (.inr h)]; decide
      ·rw [putI_put (.inr h)]; decide
     obtain ⟨⟨a0, a1⟩, ⟨b0', b1'⟩, ⟨c0, c1⟩⟩ := Hw.out
     have Hcm : Hid (c.toNat < mm.ml ∧ mm.ml = m.ml) := ⟨by have h1 := HI.out.ml; have h2 := H.out.2.2.2.2.1; dsimp only at h1; omega, HI.out.ml⟩
     have hval := HP4.out.mem.val (by have := Hcm.out.1; dsimp only; omega)
     have hval' := hval.1
     simp only [Value.slice.injEq] at hval'
     obtain ⟨rfl, hmm_, rfl⟩ := hval'
     clear hval hmm_
     obtain ⟨ix, hix⟩ : ∃ ix, idxI r ⟨op, a, b, c, n⟩ = ix := ⟨_, rfl⟩
     have Hix : Hid (idxI r ⟨op, a, b, c, n⟩ = ix) := hix
     have Hidx : Hid (∀ w, RegsR w (w1.heap.size + 1) r → Calls Try.prog 33 #[.slice (some ⟨w1.heap.size + 1, 0, none⟩) 10 10, .agg #[.int .i64 op, .int .i64 a, .int .i64 b, .int .i64 c, .int .i64 n]] w fun e w' => e = .returned (.int .i64 ix) ∧ More w w') := by
      intro w hr
      have := ref_index ⟨op, a, b, c, n⟩ (w1.heap.size + 1) (gc := 10) r w hr b0' b1'
      rw [hix] at this
      exact this
     have Hop := hid_ofP hop
     clear hix hop
     go_wp2_with (fail)
     refine (Hidx.out _ HP4.out.regs).mono ?_
     rintro e w5 ⟨rfl, m5⟩
     replace j0 := m5.cell j0
     replace j1 := m5.cell j1
     replace j2 := m5.cell j2
     replace j3 := m5.cell j3
     replace j4 := m5.cell j4
     have HP5 : Hid (PAt w w5 (.slice ra p.rl rc) (.slice (some ⟨cb, co, none⟩) p.cl cc) w1.heap.size ⟨at_, r, mm, se ++ [⟨1, at_, 0⟩]⟩ (k + 1) (.slice (some ⟨g_, 0, none⟩) (se.length + 1) cap) (.slice (some ⟨mb, 0, none⟩) m.ml vc) mb vc G C) := HP4.out.on m5
     clear HP4 m5 Hidx
     obtain ⟨ln, hln⟩ : ∃ ln, mm.len c.toNat = ln := ⟨_, rfl⟩
     have Hln : Hid (mm.len c.toNat = ln) := hln
     have row5 := HP5.out.mem.rows c.toNat Hcm.out.1
     dsimp only at row5
     rw [hln] at row5
     clear hln
     have c1' : c < (m.ml : Int) := by have := H.out.2.2.2.2.1; omega
     obtain ⟨b0, b1, o0, o1, o2, o3, o4, s0, s1, s2, s3, s4⟩ := HP5.out.cells
     push_cast at s2
     by_cases hx : ix < 0 ∨ (ln : Int) ≤ ix
     ·have HR2 : Hid (R = ⟨2, 0, (k : Int) + 1, se ++ [⟨1, at_, 0⟩], mm⟩) := run_stop Hrun.out Hat.out (step_out (s := ⟨at_, r, mm, se⟩) HIn.out Hop.out (by rw [Hix.out, Hln.out]; exact hx))
      clear Hrun
      by_cases hx0 : ix < 0
      ·go_wp2
       refine bodyPost_ret (v := .agg #[.int .i64 2, .int .i64 0, .int .i64 ((k : Int) + 1), .slice (some ⟨g_, 0, none⟩) (se.length + 1) cap, .slice (some ⟨mb, 0, none⟩) m.ml vc]) (by simp [results, Try.results13, go_sem, *]) rfl ⟨_, rfl, ?_⟩
       rw [HR2.out]
       exact HP5.out.ends (by have := Hb1.out; have := Hsl.out; have := H.out.2.2.2.2.2.2.2; dsimp only; simp; omega) Hb2.out Hb3.out HI.out.ml.symm (w0 := w5.setCell ⟨w1.heap.size, 0, none⟩ (.int .i64 2)) (grown_set _ _ _ _) (gr_set (gr_set (gr_set (gr_set (gr_set (grown_refl _ _) _ _) _ _) _ _) _ _) _ _) 2 0 ((k : Int) + 1)
      ·have hx1 : (ln : Int) ≤ ix := by omega
       have dx0 : decide (ix < 0) = false := by simp; omega
       go_wp2
       refine bodyPost_ret (v := .agg #[.int .i64 2, .int .i64 0, .int .i64 ((k : Int) + 1), .slice (some ⟨g_, 0, none⟩) (se.length + 1) cap, .slice (some ⟨mb, 0, none⟩) m.ml vc]) (by simp [results, Try.results13, go_sem, *]) rfl ⟨_, rfl, ?_⟩
       rw [HR2.out]
       exact HP5.out.ends (by have := Hb1.out; have := Hsl.out; have := H.out.2.2.2.2.2.2.2; dsimp only; simp; omega) Hb2.out Hb3.out HI.out.ml.symm (w0 := w5.setCell ⟨w1.heap.size, 0, none⟩ (.int .i64 2)) (grown_set _ _ _ _) (gr_set (gr_set (gr_set (gr_set (gr_set (grown_refl _ _) _ _) _ _) _ _) _ _) _ _) 2 0 ((k : Int) + 1)
     ·have hx0 : ¬ ix < 0 := by omega
      have hx1 : ¬ (ln : Int) ≤ ix := by omega
      have dx0 : decide (ix < 0) = false := by simp; omega
      have dx1 : decide ((ln : Int) ≤ ix) = false := by simp; omega
      have Hx : Hid (0 ≤ ix ∧ ix < (ln : Int)) := ⟨by omega, by omega⟩
      clear s0 s1 s2 o0 o1 o2 o3 o4 hx
      go_wp2_with (fail)
      refine (ref_base ra p.rl rc (some ⟨cb, co, none⟩) p.cl cc c rb ro p.log p.sec _ c0 c1 H.out.1.hr (H.out.1.regs.more HP5.out.more) H.out.2.2.1.1).mono ?_
      rintro e w6 ⟨rfl, m6⟩
      obtain ⟨bs, hbs⟩ : ∃ bs, baseI p.log c.toNat = bs := ⟨_, rfl⟩
      rw [hbs]
      have Hbs : Hid (baseI p.log c.toNat = bs) := hbs
      clear hbs
      replace j0 := m6.cell j0
      replace j1 := m6.cell j1
      replace j2 := m6.cell j2
      replace j3 := m6.cell j3
      replace j4 := m6.cell j4
      have HP6 : Hid (PAt w w6 (.slice ra p.rl rc) (.slice (some ⟨cb, co, none⟩) p.cl cc) w1.heap.size ⟨at_, r, mm, se ++ [⟨1, at_, 0⟩]⟩ (k + 1) (.slice (some ⟨g_, 0, none⟩) (se.length + 1) cap) (.slice (some ⟨mb, 0, none⟩) m.ml vc) mb vc G C) := HP5.out.on m6
      clear HP5 m6 b0 b1 s3 s4 row5
      have hwb : wrap64 (bs + ix) = bs + ix := by
       have h1 := base_eq p m H.out.2.2.2.2.2.1 c.toNat (by have := Hcm.out; omega)
       have h2 := baseN_le m.len c.toNat (fun j hj => (Hlen.out.2 j (by have := Hcm.out; omega)).2)
       have h3 := Hbs.out
       have h4 := Hx.out
       have h5 := HI.out.len c.toNat
       have h6 := (Hlen.out.2 c.toNat (by have := Hcm.out; omega)).2
       have h7 := Hln.out
       have h8 := Hlen.out.1
       have h9 := Hcm.out
       dsimp only at h5
       unfold wrap64
       omega
      by_cases hopp : op = 4 ∨ op = 6
      ·obtain rfl : pu = 1 := by rw [← Hpu.out]; exact putI_put hopp
       have HPW6 : Hid (PAt w (w6.alloc (.cells #[.int .i64 2, .int .i64 (bs + ix), .int .i64 1] 73)) (.slice ra p.rl rc) (.slice (some ⟨cb, co, none⟩) p.cl cc) w1.heap.size ⟨at_, r, mm, se ++ [⟨1, at_, 0⟩]⟩ (k + 1) (.slice (some ⟨g_, 0, none⟩) (se.length + 1) cap) (.slice (some ⟨mb, 0, none⟩) m.ml vc) mb vc G C) := HP6.out.alloc _
       have Hown6 : Hid ((w6.alloc (.cells #[.int .i64 2, .int .i64 (bs + ix), .int .i64 1] 73)).ownsRow (w1.heap.size + 2) 73 3 (.slice (some ⟨g_, 0, none⟩) (se.length + 1) cap) (se.length + 1) (flatS (se ++ [⟨1, at_, 0⟩]))) := by
        have := HPW6.out.seen
        unfold SeenOwn at this
        rw [List.length_append] at this
        exact this
       obtain ⟨s3c, s3f⟩ := HP6.out.s3
       have lt6 : w1.heap.size < w6.heap.size := by have := HP6.out.size; omega
       have lt6' : wr.heap.size < w6.heap.size := cell_block j0
       have Hgl : Hid (w1.heap.size + 2 ≤ g_) := (World.ownsRow.lt Hown6.out g_ rfl).1
       go_wp2_with (at_builtin; refine wpList_append_lies _ rfl (.tmp 123) (.tmp 129) 37 rfl (w1.heap.size + 2) 73 i2 (.agg #[.int .i64 0, .int .i64 0, .int .i64 0]) 3 24 Try.underlying37 Hi.out.1 Hi.out.2.1 Hi.out.2.2.1 Hi.out.2.2.2 rfl (by decide) (.slice (some ⟨g_, 0, none⟩) (se.length + 1) cap) (se.length + 1) (flatS (se ++ [⟨1, at_, 0⟩])) rfl Hown6.out ⟨w6.heap.size, 0, none⟩ 1 1 [.int .i64 2, .int .i64 (bs + ix), .int .i64 1] rfl rfl (by simpa using cell_three_new w6 (.int .i64 2) (.int .i64 (bs + ix)) (.int .i64 1) 73) (fun x hx => by simp at hx; rcases hx with rfl | rfl | rfl <;> rfl) (by decide) (by have := Hb1.out; have := Hsl.out; have := H.out.2.2.2.2.2.2.2; unfold maxLen; omega) (by have := Hsl.out; have := H.out.2.2.2.2.2.2.2; omega) (by have := HPW6.out.size; omega) (w6.heap.size + 1) (by simp) ?_; intro g2 cap2 w7 own7 gr7 hat7 hlt7; obtain ⟨t3c, t3f⟩ := HPW6.out.s3.kept gr7 (by have := Hgl.out; simp [Value.ownBlock]; omega))
       have HP8 : Hid (PAt w (w7.setCell ⟨w1.heap.size, 3, none⟩ (.slice (some ⟨g2, 0, none⟩) (se.length + 1 + 1) cap2)) (.slice ra p.rl rc) (.slice (some ⟨cb, co, none⟩) p.cl cc) w1.heap.size ⟨at_, r, mm, se ++ [⟨1, at_, 0⟩] ++ [⟨2, bs + ix, 1⟩]⟩ (k + 1) (.slice (some ⟨g2, 0, none⟩) (se.length + 1 + 1) cap2) (.slice (some ⟨mb, 0, none⟩) m.ml vc) mb vc G C) :=
        HPW6.out.shown _ _ (by unfold SeenOwn; rw [flatS_append, List.length_append, List.length_append]; exact own7) gr7
       have hnb : some wr.heap.size ≠ (Value.slice (some ⟨g_, 0, none⟩) (se.length + 1) cap).ownBlock := by have := Hg_.out; simp [Value.ownBlock]; exact this
       have hg8 := grown_set w7 w1.heap.size 3 (.slice (some ⟨g2, 0, none⟩) (se.length + 1 + 1) cap2)
       have hnB : some wr.heap.size ≠ some w1.heap.size := by simp; omega
       have al6 := World.grownBy_alloc w6 (.cells #[.int .i64 2, .int .i64 (bs + ix), .int .i64 1] 73) none
       replace j1 := hg8.cell (gr7.cell (al6.cell j1 (by simp)) hnb) hnB
       replace j3 := hg8.cell (gr7.cell (al6.cell j3 (by simp)) hnb) hnB
       obtain ⟨w8, hw8⟩ : ∃ w8, w7.setCell ⟨w1.heap.size, 3, none⟩ (.slice (some ⟨g2, 0, none⟩) (se.length + 1 + 1) cap2) = w8 := ⟨_, rfl⟩
       rw [hw8] at HP8 j1 j3 ⊢
       clear hw8 hg8 al6 hnb hnB own7 gr7 hat7 hlt7 t3c t3f s3c s3f j0 j2 j4 lt6 lt6' hwb
       have row8 := HP8.out.mem.rows c.toNat Hcm.out.1
       dsimp only at row8
       rw [Hln.out] at row8
       obtain ⟨yw, fw⟩ := HP8.out.mem.words c.toNat Hcm.out.1 ix.toNat (by have := Hx.out; have := Hln.out; dsimp only; omega)
       dsimp only at yw
       obtain ⟨ya, fa⟩ := HP8.out.regs a.toNat (by omega)
       dsimp only at ya
       have s4 := HP8.out.s4.1
       obtain ⟨x0, x1⟩ := Hx.out
       obtain ⟨y, hy⟩ : ∃ y, r a.toNat = y := ⟨_, rfl⟩
       rw [hy] at ya
       have HR2 : Hid (runI p g (k + 1) ⟨at_ + 1, r, setW mm c.toNat ix.toNat y, se ++ [⟨1, at_, 0⟩] ++ [⟨2, bs + ix, 1⟩]⟩ = R ∧ Inv p m (k + 1) ⟨at_ + 1, r, setW mm c.toNat ix.toNat y, se ++ [⟨1, at_, 0⟩] ++ [⟨2, bs + ix, 1⟩]⟩) := by
        have e := step_put (s := ⟨at_, r, mm, se⟩) HIn.out hopp (by rw [Hix.out]; dsimp only; rw [Hln.out]; omega)
        rw [Hix.out] at e
        dsimp only at e
        rw [Hbs.out, hy] at e
        exact ⟨run_next Hrun.out Hat.out e, Hinv.out _ (by rw [e])⟩
       clear hy Hrun
       go_wp2_with (fail)
       go_region
       go_wp2
       go_roundg g
       case measure => omega
       case rel =>
        have hPW := (HP8.out.worded c.toNat ix.toNat Hcm.out.1 (by have := Hx.out; have := Hln.out; dsimp only; omega) y).drew
        exact ⟨k + 1, _, _, by omega, by first | rfl | (push_cast; rfl), hPW.jump (at_ + 1), HR2.out.2, HR2.out.1⟩
      ·have hoppl : op = 3 ∨ op = 5 := by have := Hop.out; omega
       obtain rfl : pu = 0 := by rw [← Hpu.out]; exact putI_load hoppl
       have HPW6 : Hid (PAt w (w6.alloc (.cells #[.int .i64 2, .int .i64 (bs + ix), .int .i64 0] 73)) (.slice ra p.rl rc) (.slice (some ⟨cb, co, none⟩) p.cl cc) w1.heap.size ⟨at_, r, mm, se ++ [⟨1, at_, 0⟩]⟩ (k + 1) (.slice (some ⟨g_, 0, none⟩) (se.length + 1) cap) (.slice (some ⟨mb, 0, none⟩) m.ml vc) mb vc G C) := HP6.out.alloc _
       have Hown6 : Hid ((w6.alloc (.cells #[.int .i64 2, .int .i64 (bs + ix), .int .i64 0] 73)).ownsRow (w1.heap.size + 2) 73 3 (.slice (some ⟨g_, 0, none⟩) (se.length + 1) cap) (se.length + 1) (flatS (se ++ [⟨1, at_, 0⟩]))) := by
        have := HPW6.out.seen
        unfold SeenOwn at this
        rw [List.length_append] at this
        exact this
       obtain ⟨s3c, s3f⟩ := HP6.out.s3
       have lt6 : w1.heap.size < w6.heap.size := by have := HP6.out.size; omega
       have lt6' : wr.heap.size < w6.heap.size := cell_block j0
       have Hgl : Hid (w1.heap.size + 2 ≤ g_) := (World.ownsRow.lt Hown6.out g_ rfl).1
       go_wp2_with (at_builtin; refine wpList_append_lies _ rfl (.tmp 123) (.tmp 129) 37 rfl (w1.heap.size + 2) 73 i2 (.agg #[.int .i64 0, .int .i64 0, .int .i64 0]) 3 24 Try.underlying37 Hi.out.1 Hi.out.2.1 Hi.out.2.2.1 Hi.out.2.2.2 rfl (by decide) (.slice (some ⟨g_, 0, none⟩) (se.length + 1) cap) (se.length + 1) (flatS (se ++ [⟨1, at_, 0⟩])) rfl Hown6.out ⟨w6.heap.size, 0, none⟩ 1 1 [.int .i64 2, .int .i64 (bs + ix), .int .i64 0] rfl rfl (by simpa using cell_three_new w6 (.int .i64 2) (.int .i64 (bs + ix)) (.int .i64 0) 73) (fun x hx => by simp at hx; rcases hx with rfl | rfl | rfl <;> rfl) (by decide) (by have := Hb1.out; have := Hsl.out; have := H.out.2.2.2.2.2.2.2; unfold maxLen; omega) (by have := Hsl.out; have := H.out.2.2.2.2.2.2.2; omega) (by have := HPW6.out.size; omega) (w6.heap.size + 1) (by simp) ?_; intro g2 cap2 w7 own7 gr7 hat7 hlt7; obtain ⟨t3c, t3f⟩ := HPW6.out.s3.kept gr7 (by have := Hgl.out; simp [Value.ownBlock]; omega))
       have HP8 : Hid (PAt w (w7.setCell ⟨w1.heap.size, 3, none⟩ (.slice (some ⟨g2, 0, none⟩) (se.length + 1 + 1) cap2)) (.slice ra p.rl rc) (.slice (some ⟨cb, co, none⟩) p.cl cc) w1.heap.size ⟨at_, r, mm, se ++ [⟨1, at_, 0⟩] ++ [⟨2, bs + ix, 0⟩]⟩ (k + 1) (.slice (some ⟨g2, 0, none⟩) (se.length + 1 + 1) cap2) (.slice (some ⟨mb, 0, none⟩) m.ml vc) mb vc G C) :=
        HPW6.out.shown _ _ (by unfold SeenOwn; rw [flatS_append, List.length_append, List.length_append]; exact own7) gr7
       have hnb : some wr.heap.size ≠ (Value.slice (some ⟨g_, 0, none⟩) (se.length + 1) cap).ownBlock := by have := Hg_.out; simp [Value.ownBlock]; exact this
       have hg8 := grown_set w7 w1.heap.size 3 (.slice (some ⟨g2, 0, none⟩) (se.length + 1 + 1) cap2)
       have hnB : some wr.heap.size ≠ some w1.heap.size := by simp; omega
       have al6 := World.grownBy_alloc w6 (.cells #[.int .i64 2, .int .i64 (bs + ix), .int .i64 0] 73) none
       replace j1 := hg8.cell (gr7.cell (al6.cell j1 (by simp)) hnb) hnB
       replace j3 := hg8.cell (gr7.cell (al6.cell j3 (by simp)) hnb) hnB
       obtain ⟨w8, hw8⟩ : ∃ w8, w7.setCell ⟨w1.heap.size, 3, none⟩ (.slice (some ⟨g2, 0, none⟩) (se.length + 1 + 1) cap2) = w8 := ⟨_, rfl⟩
       rw [hw8] at HP8 j1 j3 ⊢
       clear hw8 hg8 al6 hnb hnB own7 gr7 hat7 hlt7 t3c t3f s3c s3f j0 j2 j4 lt6 lt6' hwb
       have row8 := HP8.out.mem.rows c.toNat Hcm.out.1
       dsimp only at row8
       rw [Hln.out] at row8
       obtain ⟨yw, fw⟩ := HP8.out.mem.words c.toNat Hcm.out.1 ix.toNat (by have := Hx.out; have := Hln.out; dsimp only; omega)
       dsimp only at yw
       obtain ⟨ya, fa⟩ := HP8.out.regs a.toNat (by omega)
       dsimp only at ya
       have s4 := HP8.out.s4.1
       obtain ⟨x0, x1⟩ := Hx.out
       obtain ⟨y, hy⟩ : ∃ y, mm.wd c.toNat ix.toNat = y := ⟨_, rfl⟩
       rw [hy] at yw
       have HR2 : Hid (runI p g (k + 1) ⟨at_ + 1, setR r a y, mm, se ++ [⟨1, at_, 0⟩] ++ [⟨2, bs + ix, 0⟩]⟩ = R ∧ Inv p m (k + 1) ⟨at_ + 1, setR r a y, mm, se ++ [⟨1, at_, 0⟩] ++ [⟨2, bs + ix, 0⟩]⟩) := by
        have e := step_load (s := ⟨at_, r, mm, se⟩) HIn.out hoppl (by rw [Hix.out]; dsimp only; rw [Hln.out]; omega)
        rw [Hix.out] at e
        dsimp only at e
        rw [Hbs.out, hy] at e
        exact ⟨run_next Hrun.out Hat.out e, Hinv.out _ (by rw [e])⟩
       clear hy Hrun
       go_wp2_with (fail)
       go_region
       go_wp2
       go_roundg g
       case measure => omega
       case rel =>
        have hPW := (HP8.out.regd (setR r a y) (HP8.out.regs.set a y) (grown_set _ _ _ _)).drew
        exact ⟨k + 1, _, _, by omega, by first | rfl | (push_cast; rfl), hPW.jump (at_ + 1), HR2.out.2, HR2.out.1⟩
    have h3 : ¬ op = 3 := by omega
    have h4 : ¬ op = 4 := by omega
    have h5 : ¬ op = 5 := by omega
    have h6 : ¬ op = 6 := by omega
    obtain rfl : pu = -1 := by rw [← Hpu.out]; exact putI_no h3 h4 h5 h6
    have HG : Hid (∀ w', PAt w w' (.slice ra p.rl rc) (.slice (some ⟨cb, co, none⟩) p.cl cc) w1.heap.size ⟨at_, r, mm, se ++ [⟨1, at_, 0⟩]⟩ (k + 1) (.slice (some ⟨g_, 0, none⟩) (se.length + 1) cap) (.slice va m.ml vc) mb mc G C → Calls Try.prog 35 #[.slice (some ⟨w1.heap.size + 1, 0, none⟩) 10 10, .agg #[.int .i64 op, .int .i64 a, .int .i64 b, .int .i64 c, .int .i64 n]] w' fun e w'' =>
      ∃ sv, e = .returned sv ∧ (((regsI r ⟨op, a, b, c, n⟩).2 = [] ∧ sv = .slice none 0 0) ∨ ∃ t, (regsI r ⟨op, a, b, c, n⟩).2 = [t]) ∧ SeenAt w'' sv (regsI r ⟨op, a, b, c, n⟩).2 ∧ RegsR w'' (w1.heap.size + 1) (regsI r ⟨op, a, b, c, n⟩).1 ∧ w'.grownBy w'' (some (w1.heap.size + 1))) :=
     fun w' hp => ref_registers ⟨op, a, b, c, n⟩ (w1.heap.size + 1) r w' hp.regs HI.out.r Hin.out h3 h4 h5 h6 h7 h8 h9
    have HE : Hid (stepI p ⟨at_, r, mm, se⟩ = (⟨at_ + 1, (regsI r ⟨op, a, b, c, n⟩).1, mm, se ++ [⟨1, at_, 0⟩] ++ (regsI r ⟨op, a, b, c, n⟩).2⟩, none)) := step_regs (s := ⟨at_, r, mm, se⟩) HIn.out h3 h4 h5 h6 h7 h8 h9
    obtain ⟨r2, hr2⟩ : ∃ r2, (regsI r ⟨op, a, b, c, n⟩).1 = r2 := ⟨_, rfl⟩
    obtain ⟨l2, hl2⟩ : ∃ l2, (regsI r ⟨op, a, b, c, n⟩).2 = l2 := ⟨_, rfl⟩
    rw [hr2, hl2] at HG HE
    have HR2 : Hid (runI p g (k + 1) ⟨at_ + 1, r2, mm, se ++ [⟨1, at_, 0⟩] ++ l2⟩ = R ∧ Inv p m (k + 1) ⟨at_ + 1, r2, mm, se ++ [⟨1, at_, 0⟩] ++ l2⟩) := ⟨run_next Hrun.out Hat.out HE.out, Hinv.out _ (by rw [HE.out])⟩
    clear hr2 hl2 HE Hrun Hinv hop
    go_wp2_with (fail)
    refine (HG.out _ HP4.out).mono ?_
    rintro e w5 ⟨sv5, rfl, hsv, hse5, hr5, gr5⟩
    have HP5 : Hid (PAt w w5 (.slice ra p.rl rc) (.slice (some ⟨cb, co, none⟩) p.cl cc) w1.heap.size ⟨at_, r2, mm, se ++ [⟨1, at_, 0⟩]⟩ (k + 1) (.slice (some ⟨g_, 0, none⟩) (se.length + 1) cap) (.slice va m.ml vc) mb mc G C) := HP4.out.regd r2 hr5 gr5
    have Hown5 : Hid (w5.ownsRow (w1.heap.size + 2) 73 3 (.slice (some ⟨g_, 0, none⟩) (se.length + 1) cap) (se.length + 1) (flatS (se ++ [⟨1, at_, 0⟩]))) := by
     have := HP5.out.seen
     unfold SeenOwn at this
     rw [List.length_append] at this
     exact this
    obtain ⟨s3c, s3f⟩ := HP5.out.s3
    have Hgl : Hid (w1.heap.size + 2 ≤ g_) := (World.ownsRow.lt Hown5.out g_ rfl).1
    clear hr5 gr5 HG HP4 j0 j1 j2 j3 j4
    rcases hsv with ⟨rfl, rfl⟩ | ⟨t, rfl⟩
    ·clear hse5
     go_wp2_with (at_builtin; refine wpList_append_own_none rfl (.tmp 55) (.tmp 56) 37 rfl (w1.heap.size + 2) 73 i2 3 Try.underlying37 Hi.out.1 (.slice (some ⟨g_, 0, none⟩) (se.length + 1) cap) (se.length + 1) (flatS (se ++ [⟨1, at_, 0⟩])) rfl Hown5.out rfl ?_)
     go_roundg g
     case measure => omega
     case rel =>
      have hPW := HP5.out.shown (se ++ [⟨1, at_, 0⟩]) (.slice (some ⟨g_, 0, none⟩) (se.length + 1) cap) HP5.out.seen (grown_refl _ _)
      have e2 := HR2.out
      rw [List.append_nil] at e2
      exact ⟨k + 1, _, _, by omega, by first | rfl | (push_cast; rfl), hPW.jump (at_ + 1), e2.2, e2.1⟩
    ·obtain ⟨a5, b5, o5, c5, rfl, ha5, hs5, _⟩ := hse5
     obtain rfl := ha5 (by simp)
     have hnews : ∀ j u, [Value.int .i64 t.kind, .int .i64 t.a, .int .i64 t.b][j]? = some u → w5.cell? ((⟨b5, o5, none⟩ : Addr).add j) = some u := by
      intro j u hu
      rw [Go.WideShapes.add_plain]
      have q := hs5 0 t rfl
      simp only [Nat.zero_mul, Nat.add_zero] at q
      have hj : j = 0 ∨ j = 1 ∨ j = 2 := by have := (List.getElem?_eq_some_iff.1 hu).1; simp at this; omega
      rcases hj with rfl | rfl | rfl
      ·simp at hu; subst hu; exact q.1
      ·simp at hu; subst hu; exact q.2.1
      ·simp at hu; subst hu; exact q.2.2
     have Hnews := hid_ofP hnews
     have lt5 : w1.heap.size + 1 < w5.heap.size := HP5.out.size
     clear hs5 ha5 hnews
     go_wp2_with (at_builtin; refine wpList_append_lies _ rfl (.tmp 55) (.tmp 56) 37 rfl (w1.heap.size + 2) 73 i2 (.agg #[.int .i64 0, .int .i64 0, .int .i64 0]) 3 24 Try.underlying37 Hi.out.1 Hi.out.2.1 Hi.out.2.2.1 Hi.out.2.2.2 rfl (by decide) (.slice (some ⟨g_, 0, none⟩) (se.length + 1) cap) (se.length + 1) (flatS (se ++ [⟨1, at_, 0⟩])) rfl Hown5.out ⟨b5, o5, none⟩ 1 c5 [.int .i64 t.kind, .int .i64 t.a, .int .i64 t.b] rfl rfl Hnews.out (fun x hx => by simp at hx; rcases hx with rfl | rfl | rfl <;> rfl) (by decide) (by have := Hb1.out; have := Hsl.out; have := H.out.2.2.2.2.2.2.2; unfold maxLen; omega) (by have := Hsl.out; have := H.out.2.2.2.2.2.2.2; omega) (by omega) w5.heap.size rfl ?_; intro g2 cap2 w7 own7 gr7 hat7 hlt7; obtain ⟨t3c, t3f⟩ := HP5.out.s3.kept gr7 (by have := Hgl.out; simp [Value.ownBlock]; omega))
     go_roundg g
     case measure => omega
     case rel =>
      have hPW := HP5.out.shown (se ++ [⟨1, at_, 0⟩] ++ [t]) (.slice (some ⟨g2, 0, none⟩) (se.length + 1 + 1) cap2) (by unfold SeenOwn; rw [flatS_append, List.length_append, List.length_append]; exact own7) gr7
      exact ⟨k + 1, _, _, by omega, by first | rfl | (push_cast; rfl), hPW.jump (at_ + 1), HR2.out.2, HR2.out.1⟩
end
end Go.Proofs.Ytmpafeoileonjaa
