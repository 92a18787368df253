/-
  What a call of evenkeelref1.divide does: the quotient, and what is left over.
-/
import Derived.Test.YtdlhlhbbhjbkpaaShift
namespace Go.Proofs.Ytdlhlhbbhjbkpaa
open Go.RowKit

/-- The upper bits of a number, the others not yet. -/
def top (u g : Nat) : Array Value := arr (fun i => decide (g ≤ i) && u.testBit i)
theorem top_start (u : Nat) : top u 64 = part u 0 := arr_ext fun i hi => by
  have : ¬ 64 ≤ i := by omega
  simp [this]
theorem top_all (u : Nat) : top u 0 = arr (fun i => u.testBit i) := arr_ext fun i _ => by simp
theorem top_next (u g : Nat) (b : Bool) (h : u.testBit g = b) : (top u (g + 1)).setIfInBounds g (.bool b) = top u g := by
  unfold top
  rw [arr_set]
  apply arr_ext
  intro i hi
  by_cases e : i = g
  · subst e; simp [h]
  · have : (g + 1 ≤ i) ↔ (g ≤ i) := by omega
    simp [e, this]
theorem top_skip (u g : Nat) (h : u.testBit g = false) : top u (g + 1) = top u g := by
  unfold top
  apply arr_ext
  intro i hi
  by_cases e : i = g
  · subst e; simp [h]
  · have : (g + 1 ≤ i) ↔ (g ≤ i) := by omega
    simp [this]

/-! ### A step of the division: plain -/
theorem step_num (T x B : Nat) (hB : 0 < B) (hx : x < 2) :
    (2 * T + x) % B = (if B ≤ 2 * (T % B) + x then 2 * (T % B) + x - B else 2 * (T % B) + x) ∧ (2 * T + x) / B % 2 = (if B ≤ 2 * (T % B) + x then 1 else 0) := by
  have h1 := Nat.div_add_mod T B
  have h2 := Nat.mod_lt T hB
  generalize T % B = r at *
  generalize T / B = q at *
  have e : 2 * T + x = (2 * r + x) + B * (2 * q) := by
    rw [← h1, Nat.mul_left_comm B 2 q]; omega
  rw [e, Nat.add_mul_mod_self_left, Nat.add_mul_div_left _ _ hB]
  split
  · rename_i h
    have e2 : 2 * r + x = (2 * r + x - B) + B * 1 := by omega
    constructor
    · rw [e2, Nat.add_mul_mod_self_left, Nat.mod_eq_of_lt (by omega)]; omega
    · rw [e2, Nat.add_mul_div_left _ _ hB, Nat.div_eq_of_lt (by omega)]; omega
  · rename_i h
    constructor
    · exact Nat.mod_eq_of_lt (by omega)
    · rw [Nat.div_eq_of_lt (by omega)]; omega

theorem bit_down (A g : Nat) : A / 2 ^ g = 2 * (A / 2 ^ (g + 1)) + (A.testBit g).toNat := by
  rw [Nat.pow_succ, ← Nat.div_div_eq_div_mul, Nat.testBit_eq_decide_div_mod_eq]
  generalize A / 2 ^ g = n
  rcases Nat.mod_two_eq_zero_or_one n with h | h <;> simp [h] <;> omega

/-- What is left over ahead of the bit g. -/
def left (A B g : Nat) : Nat := A / 2 ^ g % B

theorem left_start (A B : Nat) (h : A < 18446744073709551616) : left A B 64 = 0 := by
  unfold left; rw [Nat.div_eq_of_lt (by simpa using h)]; simp
theorem left_end (A B : Nat) : left A B 0 = A % B := by unfold left; simp
theorem left_lt (A B g : Nat) (hB : 0 < B) : left A B g < B := Nat.mod_lt _ hB
theorem left_next (A B g : Nat) (hB : 0 < B) : left A B g = if B ≤ 2 * left A B (g + 1) + (A.testBit g).toNat then 2 * left A B (g + 1) + (A.testBit g).toNat - B else 2 * left A B (g + 1) + (A.testBit g).toNat := by
  unfold left
  rw [bit_down A g]
  exact (step_num _ _ _ hB (Bool.toNat_lt _)).1
theorem quo_bit (A B g : Nat) (hB : 0 < B) : (A / B).testBit g = decide (B ≤ 2 * left A B (g + 1) + (A.testBit g).toNat) := by
  rw [Nat.testBit_eq_decide_div_mod_eq, Nat.div_div_eq_div_mul, Nat.mul_comm, ← Nat.div_div_eq_div_mul, bit_down A g, (step_num _ _ _ hB (Bool.toNat_lt _)).2]
  unfold left
  by_cases h : B ≤ 2 * (A / 2 ^ (g + 1) % B) + (A.testBit g).toNat <;> simp [h]

/-! ### The words of a step -/
theorem word_neg (r : Nat) (h : r < 18446744073709551616) : wrap64 (r : Int) < 0 ↔ 9223372036854775808 ≤ r := by unfold wrap64; omega
theorem word_two (r : Nat) : wrap64 (wrap64 (r : Int) + wrap64 (r : Int)) = wrap64 ((2 * r : Nat) : Int) := by unfold wrap64; omega
theorem word_one (r : Nat) : wrap64 (wrap64 (r : Int) + 1) = wrap64 ((r + 1 : Nat) : Int) := by unfold wrap64; omega
theorem word_less (n : Nat) (b : Int) (h : toU b ≤ n) : wrap64 (wrap64 (n : Int) - b) = wrap64 ((n - toU b : Nat) : Int) := by
  have := toU_cast b
  unfold wrap64; omega
theorem word_toU (n : Nat) (h : n < 18446744073709551616) : toU (wrap64 (n : Int)) = n := by unfold toU wrap64; omega
theorem word_low (n : Int) : -9223372036854775808 ≤ wrap64 n := by unfold wrap64; omega
theorem word_high (n : Int) : wrap64 n ≤ 9223372036854775807 := by unfold wrap64; omega

set_option maxHeartbeats 2000000 in
theorem divide_calls (a b : Int) (a0 : -9223372036854775808 ≤ a) (a1 : a ≤ 9223372036854775807) (b0 : -9223372036854775808 ≤ b) (b1 : b ≤ 9223372036854775807) (hb : Hid (0 < toU b)) (w : World) :
    Calls Try.prog 30 #[.int .i64 a, .int .i64 b] w fun e w' => e = .returned (.tuple #[.int .i64 (wrap64 ((toU a / toU b : Nat) : Int)), .int .i64 (wrap64 ((toU a % toU b : Nat) : Int))]) ∧ More w w' := by
  obtain ⟨Q, hQ⟩ : ∃ Q, Hid (toU a / toU b = Q) := ⟨_, rfl⟩
  obtain ⟨M, hM⟩ : ∃ M, Hid (wrap64 ((toU a % toU b : Nat) : Int) = M) := ⟨_, rfl⟩
  rw [hQ.out, hM.out]
  go_enter Try.func30, Try.ntmps30
  go_wp2_with (fail)
  refine (bits_cells a a0 a1 _).mono ?_
  rintro e w1 ⟨cx, rfl, hx, m1⟩
  go_wp2_with (refine wpList_store_row rfl 50 (.tmp 6) (.tmp 12) rfl _ _ rfl rfl 50 _ (heap_alloc_last _ _) (info_of hx) (size_of hx) (one_of hx) ?_; rw [World.setRow_alloc_new])
  have H0 := St3.start2 (c1 := cx) (c3 := part Q 0) m1
  go_loopg [8, 9] 64 (fun g r i wr => ∃ (rv : Int), g ≤ 64 ∧ Hid (rv = wrap64 ((left (toU a) (toU b) g : Nat) : Int)) ∧ i = .int .i64 ((g : Int) - 1) ∧ r = .int .i64 rv ∧ St3 w w1.heap.size w1.heap.size (w1.heap.size + 1) cx cx (top Q g) wr)
  case atStart =>
    refine ⟨0, by omega, ?_, rfl, rfl, ?_⟩
    · show (0 : Int) = _
      rw [left_start _ _ (toU_lt a)]; unfold wrap64; omega
    · rw [top_start]
      rw [part_lit] at H0 ⊢
      exact H0
  case round =>
    obtain ⟨rv, hg64, hrv, rfl, rfl, hst⟩ := hrel
    clear H0 m1
    cases gk with
    | zero =>
      have hg := hst.three
      have hm := hst.more
      rw [top_all] at hg
      have hQl : Hid (Q < 18446744073709551616) := by
        show Q < 18446744073709551616
        rw [← hQ.out]; exact Nat.lt_of_le_of_lt (Nat.div_le_self _ _) (toU_lt a)
      have hr2 : Hid (rv = M) := by
        show rv = M
        rw [hrv.out, left_end, hM.out]
      clear hst
      go_wp2_with (refine wpList_load_row rfl 50 (.tmp 7) rfl _ rfl 50 _ (0, 0) _ hg Try.underlying50 rfl (info_arr _) ?_)
      refine (of_num Q hQl.out _).mono ?_
      rintro e w3 ⟨rfl, m3⟩
      go_wp2
      go_ret2
      exact ⟨by rw [← hr2.out]; rfl, hm.trans m3⟩
    | succ g =>
      have hk : g < 64 := by omega
      have hk' : (g : Int) < 64 := by omega
      have eg : (((g + 1 : Nat)) : Int) - 1 = (g : Int) := by omega
      rw [eg]
      have hR := left_lt (toU a) (toU b) (g + 1) hb.out
      have hRB := toU_lt b
      obtain ⟨x, ex⟩ : ∃ x, (toU a).testBit g = x := ⟨_, rfl⟩
      have c1 : wr.cell? ⟨w1.heap.size, g, none⟩ = some (.bool x) := by rw [cell_of_row _ _ _ _ _ _ hst.one, get_of hx g hk, ex]
      have c3 : wr.cell? ⟨w1.heap.size + 1, g, none⟩ = some (.bool false) := by rw [cell_of_row _ _ _ _ _ _ hst.three]; unfold top; rw [arr_get _ _ hk]; simp; omega
      have f3 : wr.frozen? ⟨w1.heap.size + 1, g, none⟩ = false := frozen_of_row _ _ _ _ _ hst.three
      have Hst : Hid (St3 w w1.heap.size w1.heap.size (w1.heap.size + 1) cx cx (top Q (g + 1)) wr) := hst
      clear hst eg
      obtain ⟨r2, h2⟩ : ∃ r, wrap64 (rv + rv) = r := ⟨_, rfl⟩
      have H2 : Hid (r2 = wrap64 ((2 * left (toU a) (toU b) (g + 1) : Nat) : Int)) := by
        show r2 = _
        rw [← h2, hrv.out]; exact word_two _
      have r20 : -9223372036854775808 ≤ r2 := h2 ▸ word_low _
      have r21 : r2 ≤ 9223372036854775807 := h2 ▸ word_high _
      cases x with
      | true =>
        have HX : Hid ((toU a).testBit g = true) := ex
        clear ex
        obtain ⟨r3, h3⟩ : ∃ r, wrap64 (r2 + 1) = r := ⟨_, rfl⟩
        have H3 : Hid (r3 = wrap64 ((2 * left (toU a) (toU b) (g + 1) + 1 : Nat) : Int)) := by
          show r3 = _
          rw [← h3, H2.out]; exact word_one _
        have r30 : -9223372036854775808 ≤ r3 := h3 ▸ word_low _
        have r31 : r3 ≤ 9223372036854775807 := h3 ▸ word_high _
        by_cases hov : 9223372036854775808 ≤ left (toU a) (toU b) (g + 1)
        · have ho : rv < 0 := by rw [hrv.out]; exact (word_neg _ (by omega)).2 hov
          · have Hn : Hid (left (toU a) (toU b) g = 2 * left (toU a) (toU b) (g + 1) + 1 - toU b) := by
              show left (toU a) (toU b) g = _
              rw [left_next _ _ _ hb.out, HX.out]; simp only [Bool.toNat_true]; rw [if_pos (by omega)]
            have Hq : Hid (Q.testBit g = true) := by
              show Q.testBit g = _
              rw [← hQ.out, quo_bit _ _ _ hb.out, HX.out]; simp only [Bool.toNat_true]; simp; omega
            have Hs : Hid (wrap64 (r3 - b) = wrap64 (((2 * left (toU a) (toU b) (g + 1) + 1) - toU b : Nat) : Int)) := by
              show wrap64 (r3 - b) = _
              rw [H3.out]; exact word_less _ _ (by omega)
            clear hR hRB
            go_wp2_with fail
            go_roundg g
            case measure => omega
            case rel => exact ⟨_, by omega, Hs.out.trans (by rw [Hn.out]), by first | rfl | simp, rfl, Hst.out.set g _ (top_next _ g _ Hq.out)⟩
        · have ho : ¬ rv < 0 := by rw [hrv.out]; exact fun h => hov ((word_neg _ (by omega)).1 h)
          have HT : Hid (toU r3 = 2 * left (toU a) (toU b) (g + 1) + 1) := by
            show toU r3 = _
            rw [H3.out]; exact word_toU _ (by omega)
          by_cases hlt : 2 * left (toU a) (toU b) (g + 1) + 1 < toU b
          · have hbel : ∀ wx : World, Calls Try.prog 31 #[.int .i64 r3, .int .i64 b] wx fun e w' => e = .returned (.bool true) ∧ w' = wx := fun wx => by
              have h := below_calls r3 b r30 r31 b0 b1 wx
              rw [HT.out] at h
              have hd : decide (2 * left (toU a) (toU b) (g + 1) + 1 < toU b) = true := by simp; omega
              rw [hd] at h
              exact h
            have Hn : Hid (left (toU a) (toU b) g = 2 * left (toU a) (toU b) (g + 1) + 1) := by
              show left (toU a) (toU b) g = _
              rw [left_next _ _ _ hb.out, HX.out]; simp only [Bool.toNat_true]; rw [if_neg (by omega)]
            have Hq : Hid (Q.testBit g = false) := by
              show Q.testBit g = _
              rw [← hQ.out, quo_bit _ _ _ hb.out, HX.out]; simp only [Bool.toNat_true]; simp; omega
            clear hR hRB
            go_wp2_with (go_at_call 31; refine (hbel _).mono ?_; rintro e w' ⟨rfl, hw⟩; rw [hw])
            go_roundg g
            case measure => omega
            case rel => exact ⟨_, by omega, H3.out.trans (by rw [Hn.out]), by first | rfl | simp, rfl, top_skip _ g Hq.out ▸ Hst.out⟩
          · have hbel : ∀ wx : World, Calls Try.prog 31 #[.int .i64 r3, .int .i64 b] wx fun e w' => e = .returned (.bool false) ∧ w' = wx := fun wx => by
              have h := below_calls r3 b r30 r31 b0 b1 wx
              rw [HT.out] at h
              have hd : decide (2 * left (toU a) (toU b) (g + 1) + 1 < toU b) = false := by simp; omega
              rw [hd] at h
              exact h
            have Hn : Hid (left (toU a) (toU b) g = 2 * left (toU a) (toU b) (g + 1) + 1 - toU b) := by
              show left (toU a) (toU b) g = _
              rw [left_next _ _ _ hb.out, HX.out]; simp only [Bool.toNat_true]; rw [if_pos (by omega)]
            have Hq : Hid (Q.testBit g = true) := by
              show Q.testBit g = _
              rw [← hQ.out, quo_bit _ _ _ hb.out, HX.out]; simp only [Bool.toNat_true]; simp; omega
            have Hs : Hid (wrap64 (r3 - b) = wrap64 (((2 * left (toU a) (toU b) (g + 1) + 1) - toU b : Nat) : Int)) := by
              show wrap64 (r3 - b) = _
              rw [H3.out]; exact word_less _ _ (by omega)
            clear hR hRB
            go_wp2_with (go_at_call 31; refine (hbel _).mono ?_; rintro e w' ⟨rfl, hw⟩; rw [hw])
            go_roundg g
            case measure => omega
            case rel => exact ⟨_, by omega, Hs.out.trans (by rw [Hn.out]), by first | rfl | simp, rfl, Hst.out.set g _ (top_next _ g _ Hq.out)⟩
      | false =>
        have HX : Hid ((toU a).testBit g = false) := ex
        clear ex
        have H3 := H2
        by_cases hov : 9223372036854775808 ≤ left (toU a) (toU b) (g + 1)
        · have ho : rv < 0 := by rw [hrv.out]; exact (word_neg _ (by omega)).2 hov
          · have Hn : Hid (left (toU a) (toU b) g = 2 * left (toU a) (toU b) (g + 1) - toU b) := by
              show left (toU a) (toU b) g = _
              rw [left_next _ _ _ hb.out, HX.out]; simp only [Bool.toNat_false, Nat.add_zero]; rw [if_pos (by omega)]
            have Hq : Hid (Q.testBit g = true) := by
              show Q.testBit g = _
              rw [← hQ.out, quo_bit _ _ _ hb.out, HX.out]; simp only [Bool.toNat_false, Nat.add_zero]; simp; omega
            have Hs : Hid (wrap64 (r2 - b) = wrap64 (((2 * left (toU a) (toU b) (g + 1)) - toU b : Nat) : Int)) := by
              show wrap64 (r2 - b) = _
              rw [H3.out]; exact word_less _ _ (by omega)
            clear hR hRB
            go_wp2_with fail
            go_roundg g
            case measure => omega
            case rel => exact ⟨_, by omega, Hs.out.trans (by rw [Hn.out]), by first | rfl | simp, rfl, Hst.out.set g _ (top_next _ g _ Hq.out)⟩
        · have ho : ¬ rv < 0 := by rw [hrv.out]; exact fun h => hov ((word_neg _ (by omega)).1 h)
          have HT : Hid (toU r2 = 2 * left (toU a) (toU b) (g + 1)) := by
            show toU r2 = _
            rw [H3.out]; exact word_toU _ (by omega)
          by_cases hlt : 2 * left (toU a) (toU b) (g + 1) < toU b
          · have hbel : ∀ wx : World, Calls Try.prog 31 #[.int .i64 r2, .int .i64 b] wx fun e w' => e = .returned (.bool true) ∧ w' = wx := fun wx => by
              have h := below_calls r2 b r20 r21 b0 b1 wx
              rw [HT.out] at h
              have hd : decide (2 * left (toU a) (toU b) (g + 1) < toU b) = true := by simp; omega
              rw [hd] at h
              exact h
            have Hn : Hid (left (toU a) (toU b) g = 2 * left (toU a) (toU b) (g + 1)) := by
              show left (toU a) (toU b) g = _
              rw [left_next _ _ _ hb.out, HX.out]; simp only [Bool.toNat_false, Nat.add_zero]; rw [if_neg (by omega)]
            have Hq : Hid (Q.testBit g = false) := by
              show Q.testBit g = _
              rw [← hQ.out, quo_bit _ _ _ hb.out, HX.out]; simp only [Bool.toNat_false, Nat.add_zero]; simp; omega
            clear hR hRB
            go_wp2_with (go_at_call 31; refine (hbel _).mono ?_; rintro e w' ⟨rfl, hw⟩; rw [hw])
            go_roundg g
            case measure => omega
            case rel => exact ⟨_, by omega, H3.out.trans (by rw [Hn.out]), by first | rfl | simp, rfl, top_skip _ g Hq.out ▸ Hst.out⟩
          · have hbel : ∀ wx : World, Calls Try.prog 31 #[.int .i64 r2, .int .i64 b] wx fun e w' => e = .returned (.bool false) ∧ w' = wx := fun wx => by
              have h := below_calls r2 b r20 r21 b0 b1 wx
              rw [HT.out] at h
              have hd : decide (2 * left (toU a) (toU b) (g + 1) < toU b) = false := by simp; omega
              rw [hd] at h
              exact h
            have Hn : Hid (left (toU a) (toU b) g = 2 * left (toU a) (toU b) (g + 1) - toU b) := by
              show left (toU a) (toU b) g = _
              rw [left_next _ _ _ hb.out, HX.out]; simp only [Bool.toNat_false, Nat.add_zero]; rw [if_pos (by omega)]
            have Hq : Hid (Q.testBit g = true) := by
              show Q.testBit g = _
              rw [← hQ.out, quo_bit _ _ _ hb.out, HX.out]; simp only [Bool.toNat_false, Nat.add_zero]; simp; omega
            have Hs : Hid (wrap64 (r2 - b) = wrap64 (((2 * left (toU a) (toU b) (g + 1)) - toU b : Nat) : Int)) := by
              show wrap64 (r2 - b) = _
              rw [H3.out]; exact word_less _ _ (by omega)
            clear hR hRB
            go_wp2_with (go_at_call 31; refine (hbel _).mono ?_; rintro e w' ⟨rfl, hw⟩; rw [hw])
            go_roundg g
            case measure => omega
            case rel => exact ⟨_, by omega, Hs.out.trans (by rw [Hn.out]), by first | rfl | simp, rfl, Hst.out.set g _ (top_next _ g _ Hq.out)⟩

end Go.Proofs.Ytdlhlhbbhjbkpaa
