/-
  What the reference's Registers and Wrong come to, whatever the instruction.
-/
import Derived.Test.YtdlhlhbbhjbkpaaRefStep
import Derived.Test.YtdlhlhbbhjbkpaaRefForm
namespace Go.Proofs.Ytdlhlhbbhjbkpaa
open Go.RowKit

theorem seen_none (w : World) : SeenAt w (.slice none 0 0) [] := ⟨none, 0, 0, 0, rfl, fun h => absurd h (Nat.not_lt_zero _), fun i s h => by simp at h, by simp⟩

/-- An instruction of registers alone, such as a hard program has. -/
theorem ref_registers (i : Ins) (g : Nat) (r : Nat → Int) (w : World) (hr : RegsR w g r) (hb : ∀ j, j < 10 → B64 (r j)) {rl : Nat} {log : Nat → Int} {cl : Nat} (hi : InsOk rl log cl 10 i)
    (h3 : ¬ i.op = 3) (h4 : ¬ i.op = 4) (h5 : ¬ i.op = 5) (h6 : ¬ i.op = 6) (h7 : ¬ i.op = 7) (h8 : ¬ i.op = 8) (h9 : ¬ i.op = 9) :
    Calls Try.prog 49 #[.slice (some ⟨g, 0, none⟩) 10 10, .agg #[.int .i64 i.op, .int .i64 i.a, .int .i64 i.b, .int .i64 i.c, .int .i64 i.n]] w fun e w' =>
      ∃ sv, e = .returned sv ∧ (((regsI r i).2 = [] ∧ sv = .slice none 0 0) ∨ ∃ t, (regsI r i).2 = [t]) ∧ SeenAt w' sv (regsI r i).2 ∧ RegsR w' g (regsI r i).1 ∧ w.grownBy w' (some g) := by
  obtain ⟨op, a, b, c, n⟩ := i
  dsimp only at h3 h4 h5 h6 h7 h8 h9 ⊢
  unfold InsOk at hi
  unfold regsI
  dsimp only at hi ⊢
  by_cases h1 : op = 1
  · subst h1
    simp only [if_true] at hi ⊢
    refine (reg_1 a b c n g r w hr hi.1.1 hi.1.2).mono ?_
    rintro e w' ⟨rfl, k1, k2⟩
    exact ⟨_, rfl, .inl (by simp), seen_none _, k1, k2⟩
  rw [if_neg h1] at hi ⊢
  by_cases h2 : op = 2
  · subst h2
    simp only [if_true] at hi ⊢
    refine (reg_2 a b c n g r w hr hi.1.1 hi.1.2 hi.2.1.1 hi.2.1.2).mono ?_
    rintro e w' ⟨rfl, k1, k2⟩
    exact ⟨_, rfl, .inl (by simp), seen_none _, k1, k2⟩
  rw [if_neg h2] at hi ⊢
  rw [if_neg h3, if_neg h4, if_neg h5, if_neg h6, if_neg h7, if_neg h8, if_neg h9] at hi
  by_cases h10 : op = 10
  · subst h10
    simp only [if_true] at hi ⊢
    refine (reg_10 a b c n g r w hr hi.1.1 hi.1.2 hi.2.1.1 hi.2.1.2).mono ?_
    rintro e w' ⟨rfl, k1, k2⟩
    exact ⟨_, rfl, .inl (by simp), seen_none _, k1, k2⟩
  rw [if_neg h10] at hi ⊢
  by_cases h11 : op = 11
  · subst h11
    simp only [if_true] at hi ⊢
    by_cases hlo : r a.toNat < 0
    · rw [if_pos (Or.inl hlo)]
      refine (reg_11_lo a b c n g r _ w hr rfl hi.1.1 hi.1.2 hlo).mono ?_
      rintro e w' ⟨rfl, k1, k2⟩
      exact ⟨_, rfl, .inl (by simp), seen_none _, k1, k2⟩
    · by_cases hhi : n ≤ r a.toNat
      · rw [if_pos (Or.inr hhi)]
        refine (reg_11_hi a b c n g r _ w hr rfl hi.1.1 hi.1.2 hlo hhi).mono ?_
        rintro e w' ⟨rfl, k1, k2⟩
        exact ⟨_, rfl, .inl (by simp), seen_none _, k1, k2⟩
      · rw [if_neg (by omega)]
        refine (reg_11_in a b c n g r _ w hr rfl hi.1.1 hi.1.2 hlo (by omega)).mono ?_
        rintro e w' ⟨rfl, k1, k2⟩
        exact ⟨_, rfl, .inl (by simp), seen_none _, k1, k2⟩
  rw [if_neg h11] at hi ⊢
  by_cases h12 : op = 12
  · subst h12
    simp only [if_true] at hi ⊢
    refine (reg_12 a b c n g r w hr).mono ?_
    rintro e w' ⟨rfl, k1, k2⟩
    exact ⟨_, rfl, .inl (by simp), seen_none _, k1, k2⟩
  rw [if_neg h12] at hi ⊢
  obtain ⟨⟨o0, o1⟩, ⟨a0, a1⟩, ⟨b0, b1⟩, ⟨c0, c1⟩, _⟩ := hi
  have hb1 := hb b.toNat (by omega)
  have hb2 := hb c.toNat (by omega)
  by_cases h29 : op = 29
  · rw [if_pos (Or.inl h29)]
    refine (reg_op_div op a b c n g r w hr o0 o1 a0 a1 b0 b1 c0 c1 h29 hb1 hb2).mono ?_
    rintro e w' ⟨sv, rfl, k0, k1, k2⟩
    exact ⟨sv, rfl, .inr ⟨_, rfl⟩, k0, k1, k2⟩
  by_cases h30 : op = 30
  · rw [if_pos (Or.inr h30)]
    refine (reg_op_mod op a b c n g r w hr o0 o1 a0 a1 b0 b1 c0 c1 h30 hb1 hb2).mono ?_
    rintro e w' ⟨sv, rfl, k0, k1, k2⟩
    exact ⟨sv, rfl, .inr ⟨_, rfl⟩, k0, k1, k2⟩
  rw [if_neg (by omega)]
  refine (reg_op_no op a b c n g r w hr o0 o1 a0 a1 b0 b1 c0 c1 h29 h30 hb1 hb2).mono ?_
  rintro e w' ⟨rfl, k1, k2⟩
  exact ⟨_, rfl, .inl (by simp), seen_none _, k1, k2⟩

/-- Index, whichever of the four it is. -/
theorem ref_index (i : Ins) (g : Nat) (r : Nat → Int) (w : World) (hr : RegsR w g r) (b0 : 0 ≤ i.b) (b1 : i.b < 10) :
    Calls Try.prog 47 #[.slice (some ⟨g, 0, none⟩) 10 10, .agg #[.int .i64 i.op, .int .i64 i.a, .int .i64 i.b, .int .i64 i.c, .int .i64 i.n]] w fun e w' => e = .returned (.int .i64 (idxI r i)) ∧ More w w' := by
  unfold idxI
  by_cases h : i.op = 5 ∨ i.op = 6
  · rw [if_pos h]
    exact ref_index_k i.op i.a i.b i.c i.n _ h w
  · rw [if_neg h]
    exact ref_index_r i.op i.a i.b i.c i.n g (r i.b.toNat) (fun e => h (.inl e)) (fun e => h (.inr e)) b0 b1 w (hr i.b.toNat (by omega)).1

/-- What is wrong first (C1). -/
def wrongI (hard fits : Prop) [Decidable hard] [Decidable fits] (fuel : Int) : Int :=
  if ¬ hard ∨ ¬ fits then 2 else if fuel < 0 ∨ 40000 < fuel then 3 else 0

theorem ref_wrong (p : Prg) (l : Loc) (ma : Option Addr) (ml mc mb mo : Nat) (A : Nat → Option Addr) (L C : Nat → Nat) (fuel : Int) (w : World) (h : PIn w p l) (hma : 0 < ml → ma = some ⟨mb, mo, none⟩) (hm : ListsAt w mb mo ml A L C)
    [Decidable (p.Ok 8000 10)] [Decidable (FitsOk p.rl p.log ml L)] (R : Int) (HR : Hid (wrongI (p.Ok 8000 10) (FitsOk p.rl p.log ml L) fuel = R)) :
    Calls Try.prog 21 #[.agg #[.slice l.ra p.rl l.rc, .slice l.ca p.cl l.cc], .slice ma ml mc, .int .i64 fuel] w fun e w' => e = .returned (.int .i64 R) ∧ More w w' := by
  have H : Hid (PIn w p l) := h
  have Hl : Hid ((0 < ml → ma = some ⟨mb, mo, none⟩) ∧ ListsAt w mb mo ml A L C) := ⟨hma, hm⟩
  clear h hma hm
  go_enter Try.func21, Try.ntmps21
  go_wp2_with (fail)
  refine (ref_hard p l _ (H.out.more ((More.refl _).alloc _ _))).mono ?_
  rintro e w1 ⟨r1, rfl, h1, m1⟩
  have e0 : w1.cell? ⟨w.heap.size, 0, none⟩ = some (.slice l.ra p.rl l.rc) := m1.cell (by go_simp)
  have e1 : w1.cell? ⟨w.heap.size, 1, none⟩ = some (.slice l.ca p.cl l.cc) := m1.cell (by go_simp)
  have Hm1 : Hid (More w w1) := ((More.refl _).alloc _ _).trans m1
  clear m1
  cases r1 with
  | false =>
    have HA : Hid (R = 2) := (show R = 2 by rw [← HR.out]; unfold wrongI; rw [if_pos (Or.inl (fun k => by simpa using h1.2 k))])
    clear h1 HR
    obtain rfl := HA.out
    go_wp2
    go_ret
    exact ⟨rfl, Hm1.out⟩
  | true =>
    have HA : Hid (p.Ok 8000 10) := h1.1 rfl
    clear h1
    go_wp2_with (fail)
    refine (ref_fits l.ra p.rl l.rc l.ca p.cl l.cc ma ml mc l.rb l.ro mb mo p.log p.sec A L C _ H.out.hr (H.out.regs.more Hm1.out) Hl.out.1 (Hl.out.2.more Hm1.out)).mono ?_
    rintro e w2 ⟨r2, rfl, h2, m2⟩
    have Hm2 : Hid (More w w2) := Hm1.out.trans m2
    clear m2 e0 e1
    cases r2 with
    | false =>
      have HB : Hid (R = 2) := (show R = 2 by rw [← HR.out]; unfold wrongI; rw [if_pos (Or.inr (fun k => by simpa using h2.2 k))])
      clear h2 HR
      obtain rfl := HB.out
      go_wp2
      go_ret
      exact ⟨rfl, Hm2.out⟩
    | true =>
      have HB : Hid (FitsOk p.rl p.log ml L) := h2.1 rfl
      clear h2
      have hR : R = if fuel < 0 ∨ 40000 < fuel then 3 else 0 := by rw [← HR.out]; unfold wrongI; rw [if_neg (by rintro (k | k); exact k HA.out; exact k HB.out)]
      clear HR
      by_cases f0 : fuel < 0
      · rw [if_pos (Or.inl f0)] at hR
        subst hR
        go_wp2
        go_ret
        exact ⟨rfl, Hm2.out⟩
      by_cases f1 : 40000 < fuel
      · rw [if_pos (Or.inr f1)] at hR
        subst hR
        go_wp2
        go_ret
        exact ⟨rfl, Hm2.out⟩
      rw [if_neg (by omega)] at hR
      subst hR
      go_wp2
      go_ret
      exact ⟨rfl, Hm2.out⟩

end Go.Proofs.Ytdlhlhbbhjbkpaa
