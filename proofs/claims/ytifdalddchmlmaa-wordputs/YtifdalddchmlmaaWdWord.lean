/-
  What word's written and read come to: a word of an instruction, and the instruction of a word.
-/
import Derived.Test.YtifdalddchmlmaaWdGet
import Derived.Laws.BitsAllLaws
namespace Go.Proofs.Ytifdalddchmlmaa
open Go.RowKit
set_option linter.unusedVariables false
set_option linter.unusedSimpArgs false
set_option maxRecDepth 8000

theorem mask32 (x : Int) (k : Nat) (m n : Int) (h : W32 x) (hk : k ≤ 14) (em : m = ((2 ^ k - 1 : Nat) : Int)) (en : n = ((2 ^ k : Nat) : Int)) : bits .and .u32 x m = x % n := by
  unfold W32 at h
  obtain ⟨X, rfl⟩ := Int.eq_ofNat_of_zero_le h.1
  have h2 : 2 ^ k ≤ 2 ^ 14 := Nat.pow_le_pow_right (by decide) hk
  subst em en
  rw [u32_and_nat X _ (by omega) (by omega), Nat.and_two_pow_sub_one_eq_mod]
  rfl
theorem or32 (x y : Int) (k X Y : Nat) (hx : x = ((2 ^ k * X : Nat) : Int)) (hy : y = (Y : Int)) (h1 : 2 ^ k * X < 4294967296) (h2 : Y < 2 ^ k) (hk : k ≤ 30) : bits .or .u32 x y = x + y := by
  have h3 : 2 ^ k ≤ 2 ^ 30 := Nat.pow_le_pow_right (by decide) hk
  subst hx hy
  rw [u32_or_nat _ _ h1 (by omega), ← Nat.two_pow_add_eq_or_of_lt h2]
  push_cast
  rfl

/-- The word that written makes. -/
theorem enc_bits {op a b c n : Int} (s : Small ⟨op, a, b, c, n⟩) (hn : N14 n) :
    bits BinOp.or IntKind.u32 (bits BinOp.or IntKind.u32 (bits BinOp.or IntKind.u32 (bits BinOp.or IntKind.u32 (op % 4294967296 * 67108864 % 4294967296) (a % 4294967296 * 4194304 % 4294967296)) (b % 4294967296 * 262144 % 4294967296)) (c % 4294967296 * 16384 % 4294967296)) (bits BinOp.and IntKind.u32 (n % 4294967296) 16383) = encW ⟨op, a, b, c, n⟩ := by
  obtain ⟨⟨o0, o1⟩, ⟨a0, a1⟩, ⟨b0, b1⟩, ⟨c0, c1⟩⟩ := s
  dsimp only at o0 o1 a0 a1 b0 b1 c0 c1
  unfold N14 at hn
  have e0 : bits .and .u32 (n % 4294967296) 16383 = (if n < 0 then n + 16384 else n) := by
    rw [mask32 (n % 4294967296) 14 16383 16384 (by unfold W32; omega) (by decide) (by decide) (by decide)]
    split <;> omega
  have e1 : op % 4294967296 * 67108864 % 4294967296 = op * 67108864 := by omega
  have e2 : a % 4294967296 * 4194304 % 4294967296 = a * 4194304 := by omega
  have e3 : b % 4294967296 * 262144 % 4294967296 = b * 262144 := by omega
  have e4 : c % 4294967296 * 16384 % 4294967296 = c * 16384 := by omega
  have hm : ∃ M : Nat, (if n < 0 then n + 16384 else n) = (M : Int) ∧ M < 16384 := by
    by_cases h : n < 0
    · rw [if_pos h]; exact ⟨(n + 16384).toNat, by omega, by omega⟩
    · rw [if_neg h]; exact ⟨n.toNat, by omega, by omega⟩
  rw [e0, e1, e2, e3, e4]
  unfold encW
  dsimp only
  obtain ⟨M, hM, hM1⟩ := hm
  rw [hM]
  obtain ⟨O, rfl⟩ := Int.eq_ofNat_of_zero_le o0
  obtain ⟨A, rfl⟩ := Int.eq_ofNat_of_zero_le a0
  obtain ⟨B, rfl⟩ := Int.eq_ofNat_of_zero_le b0
  obtain ⟨C, rfl⟩ := Int.eq_ofNat_of_zero_le c0
  rw [or32 ((O : Int) * 67108864) ((A : Int) * 4194304) 26 O (A * 4194304) (by omega) (by omega) (by omega) (by omega) (by decide),
    or32 _ ((B : Int) * 262144) 22 (O * 16 + A) (B * 262144) (by omega) (by omega) (by omega) (by omega) (by decide),
    or32 _ ((C : Int) * 16384) 18 ((O * 16 + A) * 16 + B) (C * 16384) (by omega) (by omega) (by omega) (by omega) (by decide),
    or32 _ (M : Int) 14 (((O * 16 + A) * 16 + B) * 16 + C) M (by omega) rfl (by omega) (by omega) (by decide)]
  omega

theorem written_calls (op a b c n : Int) (w : World) (s : Small ⟨op, a, b, c, n⟩) (hn : N14 n) :
    Calls Try.prog 14 #[.agg #[.int .i64 op, .int .i64 a, .int .i64 b, .int .i64 c, .int .i64 n]] w fun e w' => e = .returned (.int .u32 (encW ⟨op, a, b, c, n⟩)) ∧ More w w' := by
  have H := enc_bits s hn
  obtain ⟨u, hu⟩ : ∃ x, encW ⟨op, a, b, c, n⟩ = x := ⟨_, rfl⟩
  rw [hu] at H ⊢
  have HH : Hid (_ = u) := H
  clear s hn hu H
  go_enter Try.func14, Try.ntmps14
  go_wp2
  go_ret
  rw [← HH.out]
  exact ⟨rfl, (More.refl _).alloc _ _⟩

/-! ### read -/
theorem cut_n (u : Int) (b : Nat) (w : World) (hc : w.cell? ⟨b, 0, none⟩ = some (.int .u32 u)) (hu : W32 u) :
    Calls Try.prog 20 #[.int .i64 0, .int .i64 14, .pointer (some ⟨b, 0, none⟩)] w fun e w' => e = .returned (.int .i64 (u % 16384)) ∧ More w w' := by
  have e : wrap64 (bits BinOp.and IntKind.u32 u 16383) = u % 16384 := by
    rw [mask32 u 14 16383 16384 hu (by decide) (by decide) (by decide)]; unfold wrap64; omega
  go_enter Try.func20, Try.ntmps20
  go_wp2
  go_region
  all_goals (try go_wp2)
  go_ret
  rw [← e]
  exact ⟨rfl, (More.refl _).drew⟩
theorem cut_op (u : Int) (b : Nat) (w : World) (hc : w.cell? ⟨b, 0, none⟩ = some (.int .u32 u)) (hu : W32 u) :
    Calls Try.prog 20 #[.int .i64 26, .int .i64 6, .pointer (some ⟨b, 0, none⟩)] w fun e w' => e = .returned (.int .i64 (u / 16384 / 16 / 16 / 16)) ∧ More w w' := by
  have e : wrap64 (bits BinOp.and IntKind.u32 (u / 67108864) 63) = u / 16384 / 16 / 16 / 16 := by
    unfold W32 at hu
    rw [mask32 (u / 67108864) 6 63 64 (by unfold W32; omega) (by decide) (by decide) (by decide)]; unfold wrap64; omega
  go_enter Try.func20, Try.ntmps20
  go_wp2
  go_region
  all_goals (try go_wp2)
  go_ret
  rw [← e]
  exact ⟨rfl, (More.refl _).drew⟩
theorem cut_a (u : Int) (b : Nat) (w : World) (hc : w.cell? ⟨b, 0, none⟩ = some (.int .u32 u)) (hu : W32 u) :
    Calls Try.prog 20 #[.int .i64 22, .int .i64 4, .pointer (some ⟨b, 0, none⟩)] w fun e w' => e = .returned (.int .i64 (u / 16384 / 16 / 16 % 16)) ∧ More w w' := by
  have e : wrap64 (bits BinOp.and IntKind.u32 (u / 4194304) 15) = u / 16384 / 16 / 16 % 16 := by
    unfold W32 at hu
    rw [mask32 (u / 4194304) 4 15 16 (by unfold W32; omega) (by decide) (by decide) (by decide)]; unfold wrap64; omega
  go_enter Try.func20, Try.ntmps20
  go_wp2
  go_region
  all_goals (try go_wp2)
  go_ret
  rw [← e]
  exact ⟨rfl, (More.refl _).drew⟩
theorem cut_b (u : Int) (b : Nat) (w : World) (hc : w.cell? ⟨b, 0, none⟩ = some (.int .u32 u)) (hu : W32 u) :
    Calls Try.prog 20 #[.int .i64 18, .int .i64 4, .pointer (some ⟨b, 0, none⟩)] w fun e w' => e = .returned (.int .i64 (u / 16384 / 16 % 16)) ∧ More w w' := by
  have e : wrap64 (bits BinOp.and IntKind.u32 (u / 262144) 15) = u / 16384 / 16 % 16 := by
    unfold W32 at hu
    rw [mask32 (u / 262144) 4 15 16 (by unfold W32; omega) (by decide) (by decide) (by decide)]; unfold wrap64; omega
  go_enter Try.func20, Try.ntmps20
  go_wp2
  go_region
  all_goals (try go_wp2)
  go_ret
  rw [← e]
  exact ⟨rfl, (More.refl _).drew⟩
theorem cut_c (u : Int) (b : Nat) (w : World) (hc : w.cell? ⟨b, 0, none⟩ = some (.int .u32 u)) (hu : W32 u) :
    Calls Try.prog 20 #[.int .i64 14, .int .i64 4, .pointer (some ⟨b, 0, none⟩)] w fun e w' => e = .returned (.int .i64 (u / 16384 % 16)) ∧ More w w' := by
  have e : wrap64 (bits BinOp.and IntKind.u32 (u / 16384) 15) = u / 16384 % 16 := by
    unfold W32 at hu
    rw [mask32 (u / 16384) 4 15 16 (by unfold W32; omega) (by decide) (by decide) (by decide)]; unfold wrap64; omega
  go_enter Try.func20, Try.ntmps20
  go_wp2
  go_region
  all_goals (try go_wp2)
  go_ret
  rw [← e]
  exact ⟨rfl, (More.refl _).drew⟩

/-- An instruction as a value. -/
def insV (i : Ins) : Value := .agg #[.int .i64 i.op, .int .i64 i.a, .int .i64 i.b, .int .i64 i.c, .int .i64 i.n]

set_option maxHeartbeats 1000000 in
theorem read_calls (u : Int) (w : World) (hu : W32 u) : Calls Try.prog 16 #[.int .u32 u] w fun e w' => e = .returned (insV (decW u)) ∧ More w w' := by
  suffices hP : ∀ P : Ending → World → Prop, (∀ w', More w w' → P (.returned (insV (decW u))) w') → Calls Try.prog 16 #[.int .u32 u] w P from hP _ (fun w' m => ⟨rfl, m⟩)
  intro P hP0
  have HP : Hid (∀ w', More w w' → P (.returned (insV (decW u))) w') := hP0
  have HU : Hid (W32 u) := hu
  have hmf : ∀ (fn : Fn) (first cap : Array Value) (w : World), (Instr.makeFunc fn first cap).run Try.prog w = .ok (.func fn first cap) w := fun _ _ _ _ => rfl
  clear hP0 hu
  obtain ⟨W, HW⟩ : ∃ W : World, Hid (W = (w.alloc (.cells #[.int .u32 u] 40)).alloc (.cells #[.int .i64 0, .int .i64 0, .int .i64 0, .int .i64 0, .int .i64 0] 39)) := ⟨_, rfl⟩
  have Hm : Hid (More w W) := HW.out ▸ (((More.refl _).alloc _ _).alloc _ _)
  have Hb : Hid (Blk W w.heap.size #[.int .u32 u] 40) := HW.out ▸ (Blk.last _ _ _).alloc _ _
  have Hr : Hid (Blk W (w.heap.size + 1) #[.int .i64 0, .int .i64 0, .int .i64 0, .int .i64 0, .int .i64 0] 39) := by rw [HW.out]; show Blk _ _ _ _; simpa using Blk.last (w.alloc (.cells #[.int .u32 u] 40)) #[.int .i64 0, .int .i64 0, .int .i64 0, .int .i64 0, .int .i64 0] 39
  have hn0 : 0 ≤ u % 16384 ∧ u % 16384 < 16384 := by omega
  obtain ⟨x0, X0⟩ : ∃ x, Hid (u % 16384 = x) := ⟨_, rfl⟩
  obtain ⟨x1, X1⟩ : ∃ x, Hid (u / 16384 / 16 / 16 / 16 = x) := ⟨_, rfl⟩
  obtain ⟨x2, X2⟩ : ∃ x, Hid (u / 16384 / 16 / 16 % 16 = x) := ⟨_, rfl⟩
  obtain ⟨x3, X3⟩ : ∃ x, Hid (u / 16384 / 16 % 16 = x) := ⟨_, rfl⟩
  obtain ⟨x4, X4⟩ : ∃ x, Hid (u / 16384 % 16 = x) := ⟨_, rfl⟩
  have HV : Hid (insV (decW u) = .agg #[.int .i64 x1, .int .i64 x2, .int .i64 x3, .int .i64 x4, .int .i64 (if 8192 ≤ x0 then x0 - 16384 else x0)]) := by
    show _ = _
    unfold insV decW
    rw [X0.out, X1.out, X2.out, X3.out, X4.out]
  rw [X0.out] at hn0
  go_enter Try.func16, Try.ntmps16
  go_wp2_with (fail)
  rw [← HW.out]
  refine (cut_n u w.heap.size W (Hb.out.cell rfl) HU.out).mono ?_
  rintro e w1 ⟨rfl, m1⟩
  rw [X0.out]
  have Hm1 : Hid (More W w1) := m1
  clear m1
  have fin : ∀ v4 : Int, (if 8192 ≤ x0 then x0 - 16384 else x0) = v4 → ∀ w', More W w' → P (.returned (.agg #[.int .i64 x1, .int .i64 x2, .int .i64 x3, .int .i64 x4, .int .i64 v4])) (((((w'.setCell ⟨w.heap.size + 1, 0, none⟩ (.int .i64 x1)).setCell ⟨w.heap.size + 1, 1, none⟩ (.int .i64 x2)).setCell ⟨w.heap.size + 1, 2, none⟩ (.int .i64 x3)).setCell ⟨w.heap.size + 1, 3, none⟩ (.int .i64 x4)).setCell ⟨w.heap.size + 1, 4, none⟩ (.int .i64 v4)) := by
    intro v4 hv w' m
    have h := HP.out (((((w'.setCell ⟨w.heap.size + 1, 0, none⟩ (.int .i64 x1)).setCell ⟨w.heap.size + 1, 1, none⟩ (.int .i64 x2)).setCell ⟨w.heap.size + 1, 2, none⟩ (.int .i64 x3)).setCell ⟨w.heap.size + 1, 3, none⟩ (.int .i64 x4)).setCell ⟨w.heap.size + 1, 4, none⟩ (.int .i64 v4)) ?_
    · rw [HV.out, hv] at h; exact h
    · exact (((((Hm.out.trans m).setCell (by show w.heap.size ≤ _; simp) _).setCell (by show w.heap.size ≤ _; simp) _).setCell (by show w.heap.size ≤ _; simp) _).setCell (by show w.heap.size ≤ _; simp) _).setCell (by show w.heap.size ≤ _; simp) _
  have Hfin : Hid _ := fin
  clear fin
  by_cases h8 : 8191 < x0
  · have d : decide (8191 < x0) = true := by simp [h8]
    have e1 : wrap64 (x0 - 16384) = x0 - 16384 := by unfold wrap64; omega
    have HF : Hid _ := Hfin.out (x0 - 16384) (by rw [if_pos (by omega)])
    clear Hfin h8
    go_wp2_with (fail)
    refine (cut_op u w.heap.size w1 ((Hb.out.more Hm1.out).cell rfl) HU.out).mono ?_
    rintro e w2 ⟨rfl, m2⟩
    rw [X1.out]
    have Hm2 : Hid (More W w2) := Hm1.out.trans m2
    clear m2 Hm1
    go_wp2_with (fail)
    refine (cut_a u w.heap.size w2 ((Hb.out.more Hm2.out).cell rfl) HU.out).mono ?_
    rintro e w3 ⟨rfl, m3⟩
    rw [X2.out]
    have Hm3 : Hid (More W w3) := Hm2.out.trans m3
    clear m3 Hm2
    go_wp2_with (fail)
    refine (cut_b u w.heap.size w3 ((Hb.out.more Hm3.out).cell rfl) HU.out).mono ?_
    rintro e w4 ⟨rfl, m4⟩
    rw [X3.out]
    have Hm4 : Hid (More W w4) := Hm3.out.trans m4
    clear m4 Hm3
    go_wp2_with (fail)
    refine (cut_c u w.heap.size w4 ((Hb.out.more Hm4.out).cell rfl) HU.out).mono ?_
    rintro e w5 ⟨rfl, m5⟩
    rw [X4.out]
    have Hm5 : Hid (More W w5) := Hm4.out.trans m5
    clear m5 Hm4
    have Hr5 := Hr.out.more Hm5.out
    have z0 := Hr5.cell (j := 0) rfl
    have z1 := Hr5.cell (j := 1) rfl
    have z2 := Hr5.cell (j := 2) rfl
    have z3 := Hr5.cell (j := 3) rfl
    have z4 := Hr5.cell (j := 4) rfl
    have y0 := Hr5.frozen 0
    have y1 := Hr5.frozen 1
    have y2 := Hr5.frozen 2
    have y3 := Hr5.frozen 3
    have y4 := Hr5.frozen 4
    clear Hr5
    go_wp2
    refine bodyPost_ret (v := .agg #[.int .i64 x1, .int .i64 x2, .int .i64 x3, .int .i64 x4, .int .i64 (x0 - 16384)]) (by simp [results, Try.results16, go_sem, *]) rfl ?_
    exact HF.out w5 Hm5.out
  · have d : decide (8191 < x0) = false := by simp [h8]
    have HF : Hid _ := Hfin.out x0 (by rw [if_neg (by omega)])
    clear Hfin h8
    go_wp2_with (fail)
    refine (cut_op u w.heap.size w1 ((Hb.out.more Hm1.out).cell rfl) HU.out).mono ?_
    rintro e w2 ⟨rfl, m2⟩
    rw [X1.out]
    have Hm2 : Hid (More W w2) := Hm1.out.trans m2
    clear m2 Hm1
    go_wp2_with (fail)
    refine (cut_a u w.heap.size w2 ((Hb.out.more Hm2.out).cell rfl) HU.out).mono ?_
    rintro e w3 ⟨rfl, m3⟩
    rw [X2.out]
    have Hm3 : Hid (More W w3) := Hm2.out.trans m3
    clear m3 Hm2
    go_wp2_with (fail)
    refine (cut_b u w.heap.size w3 ((Hb.out.more Hm3.out).cell rfl) HU.out).mono ?_
    rintro e w4 ⟨rfl, m4⟩
    rw [X3.out]
    have Hm4 : Hid (More W w4) := Hm3.out.trans m4
    clear m4 Hm3
    go_wp2_with (fail)
    refine (cut_c u w.heap.size w4 ((Hb.out.more Hm4.out).cell rfl) HU.out).mono ?_
    rintro e w5 ⟨rfl, m5⟩
    rw [X4.out]
    have Hm5 : Hid (More W w5) := Hm4.out.trans m5
    clear m5 Hm4
    have Hr5 := Hr.out.more Hm5.out
    have z0 := Hr5.cell (j := 0) rfl
    have z1 := Hr5.cell (j := 1) rfl
    have z2 := Hr5.cell (j := 2) rfl
    have z3 := Hr5.cell (j := 3) rfl
    have z4 := Hr5.cell (j := 4) rfl
    have y0 := Hr5.frozen 0
    have y1 := Hr5.frozen 1
    have y2 := Hr5.frozen 2
    have y3 := Hr5.frozen 3
    have y4 := Hr5.frozen 4
    clear Hr5
    go_wp2
    refine bodyPost_ret (v := .agg #[.int .i64 x1, .int .i64 x2, .int .i64 x3, .int .i64 x4, .int .i64 x0]) (by simp [results, Try.results16, go_sem, *]) rfl ?_
    exact HF.out w5 Hm5.out

end Go.Proofs.Ytifdalddchmlmaa
