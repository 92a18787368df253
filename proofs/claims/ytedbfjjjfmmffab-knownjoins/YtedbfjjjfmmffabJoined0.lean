/-
  The texts KnOpen, Plain, KnPlain, KnLen, Ord, Mem, KnDev, Fork, one behind the other.
-/
import Derived.Test.YtedbfjjjfmmffabRows
import Derived.ProofKit
import Derived.OpenShut
import Derived.Deep.Slices
import Derived.Deep.SlicePairs
import Derived.Lib.SmallJoins
import Derived.RowKit
import Derived.WalkKit
import Derived.Laws.BitsAllLaws
import Derived.Laws.MathBits
import Derived.Test.YtedbfjjjfmmffabProg
import Derived.Lib.Strings
import Derived.Lib.Slices
import Derived.Lib.Small
import Derived.Lib.Walk
import Derived.Lib.BitFns
import Derived.Deep.RegionHeld3
import Derived.Deep.WholeRow

/-
  What is known of a number, handed in: read off the data that the statement speaks of.
-/
namespace Go.Proofs.Ytedbfjjjfmmffab
open Go.ChangeShapes Go.WideShapes Go.ChangeAt Go.RowKit Go.Deep Go.Joins
set_option maxRecDepth 8000

section
variable {H : Type} {enc : TypeId × Value → H} {W : World} {base : Nat} {held : Bool}

theorem cells55 : Try.prog.cellsOf 23 = 2 := by kernel_rfl

theorem open_known {v : Value} {d : DataW H} {ps : List MemPlace} {r : Reach} {b0 : Nat} (hv : Value.okWide Try.prog W r b0 23 v) (h : DataW.Trod enc Try.prog W base (fun _ => true) held 23 v d ps) :
    ∃ (a : Int) (s : Bool), v = .agg #[.int .i64 a, .bool s] ∧ -9223372036854775808 ≤ a ∧ a ≤ 9223372036854775807 := by
  obtain ⟨v0, v1, y0, y1, n, rfl, rfl, rfl, h0, h1⟩ := open_agg2 Try.underlying23 (by kernel_rfl) cells55 hv h
  obtain ⟨z, hz, _, wz⟩ := DataW.trod_int Try.underlying3 h0
  obtain ⟨s, hs, _⟩ := DataW.trod_bool Try.underlying4 h1
  simp at hz hs
  subst hz hs
  have := bounds_i64 wz
  exact ⟨z, s, rfl, this.1, this.2⟩

end
end Go.Proofs.Ytedbfjjjfmmffab

/-
  Plain arithmetic, no Go in sight: what the ten operations and the four conditions of package num come to, as functions of whole numbers, and the laws on them that the three statements want.
-/
namespace Go.Proofs.Ytedbfjjjfmmffab
open Go.RowKit

/-- A number of 64 bits, taken from 0 on. -/
def toU (a : Int) : Nat := (a % 18446744073709551616).toNat

theorem toU_cast (a : Int) : ((toU a : Nat) : Int) = a % 18446744073709551616 := by unfold toU; omega
theorem toU_lt (a : Int) : toU a < 18446744073709551616 := by unfold toU; omega

/-- What an operation makes of two numbers. -/
def opI (op a b : Int) : Int :=
  if op = 1 then wrap64 (a + b)
  else if op = 2 then wrap64 (a - b)
  else if op = 3 then wrap64 (a * b)
  else if op = 4 then wrap64 ((toU a &&& toU b : Nat) : Int)
  else if op = 5 then wrap64 ((toU a ||| toU b : Nat) : Int)
  else if op = 6 then wrap64 ((toU a ^^^ toU b : Nat) : Int)
  else if op = 7 then wrap64 ((toU a * 2 ^ (toU b % 64) : Nat) : Int)
  else if op = 8 then wrap64 ((toU a / 2 ^ (toU b % 64) : Nat) : Int)
  else if op = 9 then wrap64 ((toU a / toU b : Nat) : Int)
  else if op = 10 then wrap64 ((toU a % toU b : Nat) : Int)
  else 0

/-- Whether two numbers are as a condition says. -/
def holdsI (c a b : Int) : Bool :=
  if c = 1 then toU a == toU b
  else if c = 2 then toU a != toU b
  else if c = 3 then decide (toU a < toU b)
  else if c = 4 then decide (toU b ≤ toU a)
  else false

theorem uwrap (a : Int) : IntKind.u64.wrap a = ((toU a : Nat) : Int) := by rw [IntKind.wrap_u64, toU_cast]

theorem wrap_uwrap (n : Int) : wrap64 (IntKind.u64.wrap n) = wrap64 n := by
  rw [IntKind.wrap_u64]; unfold wrap64; omega

theorem wrap_add (a b : Int) : wrap64 (IntKind.u64.wrap (IntKind.u64.wrap a + IntKind.u64.wrap b)) = wrap64 (a + b) := by
  rw [wrap_uwrap]; simp only [IntKind.wrap_u64]; unfold wrap64; omega
theorem wrap_sub (a b : Int) : wrap64 (IntKind.u64.wrap (IntKind.u64.wrap a - IntKind.u64.wrap b)) = wrap64 (a - b) := by
  rw [wrap_uwrap]; simp only [IntKind.wrap_u64]; unfold wrap64; omega
theorem wrap_mul (a b : Int) : wrap64 (IntKind.u64.wrap (IntKind.u64.wrap a * IntKind.u64.wrap b)) = wrap64 (a * b) := by
  have h : (a % 18446744073709551616 * (b % 18446744073709551616)) % 18446744073709551616 = (a * b) % 18446744073709551616 := by
    rw [← Int.mul_emod]
  rw [wrap_uwrap]; simp only [IntKind.wrap_u64]; unfold wrap64; omega
theorem wrap_and (a b : Int) : wrap64 (bits .and .u64 (IntKind.u64.wrap a) (IntKind.u64.wrap b)) = wrap64 ((toU a &&& toU b : Nat) : Int) := by
  rw [uwrap, uwrap, u64_and_nat _ _ (toU_lt a) (toU_lt b)]
theorem wrap_or (a b : Int) : wrap64 (bits .or .u64 (IntKind.u64.wrap a) (IntKind.u64.wrap b)) = wrap64 ((toU a ||| toU b : Nat) : Int) := by
  rw [uwrap, uwrap, u64_or_nat _ _ (toU_lt a) (toU_lt b)]
theorem wrap_xor (a b : Int) : wrap64 (bits .xor .u64 (IntKind.u64.wrap a) (IntKind.u64.wrap b)) = wrap64 ((toU a ^^^ toU b : Nat) : Int) := by
  rw [uwrap, uwrap, u64_xor_nat _ _ (toU_lt a) (toU_lt b)]
theorem and63 (y : Int) : bits BinOp.and IntKind.u64 (IntKind.u64.wrap y) 63 = ((toU y % 64 : Nat) : Int) := by
  have h := u64_and_nat (toU y) 63 (toU_lt y) (by decide)
  rw [uwrap]
  exact h.trans (by rw [nat_mask6])
theorem wrap_shl (a : Int) (k : Nat) : wrap64 (IntKind.u64.wrap (IntKind.u64.wrap a * 2 ^ k)) = wrap64 ((toU a * 2 ^ k : Nat) : Int) := by
  rw [wrap_uwrap, uwrap]; push_cast; rfl
theorem wrap_shr (a : Int) (k : Nat) : wrap64 (IntKind.u64.wrap a / 2 ^ k) = wrap64 ((toU a / 2 ^ k : Nat) : Int) := by
  rw [uwrap]; push_cast; rfl
theorem wrap_quo (a b : Int) : wrap64 (IntKind.u64.wrap ((IntKind.u64.wrap a).tdiv (IntKind.u64.wrap b))) = wrap64 ((toU a / toU b : Nat) : Int) := by
  rw [wrap_uwrap, uwrap, uwrap, Int.ofNat_tdiv]
theorem wrap_rem (a b : Int) : wrap64 ((IntKind.u64.wrap a).tmod (IntKind.u64.wrap b)) = wrap64 ((toU a % toU b : Nat) : Int) := by
  rw [uwrap, uwrap, Int.ofNat_tmod]
theorem quo_zero (a b : Int) (h : toU b = 0) : (0 : Int) = wrap64 ((toU a / toU b : Nat) : Int) := by
  rw [h, Nat.div_zero]; unfold wrap64; omega
theorem rem_zero (a b : Int) (h : toU b = 0) : wrap64 (IntKind.u64.wrap a) = wrap64 ((toU a % toU b : Nat) : Int) := by
  rw [h, Nat.mod_zero, uwrap]

theorem holdsI_1 (a b : Int) : holdsI 1 a b = (IntKind.u64.wrap a == IntKind.u64.wrap b) := by
  have h := toU_cast a; have h' := toU_cast b
  simp only [holdsI, IntKind.wrap_u64]
  rw [Bool.eq_iff_iff]; simp; omega
theorem holdsI_2 (a b : Int) : holdsI 2 a b = (IntKind.u64.wrap a != IntKind.u64.wrap b) := by
  have h := toU_cast a; have h' := toU_cast b
  simp only [holdsI, IntKind.wrap_u64]
  rw [Bool.eq_iff_iff]; simp; omega
theorem holdsI_3 (a b : Int) : holdsI 3 a b = decide (IntKind.u64.wrap a < IntKind.u64.wrap b) := by
  have h := toU_cast a; have h' := toU_cast b
  simp only [holdsI, IntKind.wrap_u64]
  rw [Bool.eq_iff_iff]; simp; omega
theorem holdsI_4 (a b : Int) : holdsI 4 a b = decide (IntKind.u64.wrap b ≤ IntKind.u64.wrap a) := by
  have h := toU_cast a; have h' := toU_cast b
  simp only [holdsI, IntKind.wrap_u64]
  rw [Bool.eq_iff_iff]; simp; omega

theorem opI_1 (a b : Int) : opI 1 a b = wrap64 (a + b) := by simp [opI]
theorem opI_2 (a b : Int) : opI 2 a b = wrap64 (a - b) := by simp [opI]
theorem opI_3 (a b : Int) : opI 3 a b = wrap64 (a * b) := by simp [opI]
theorem opI_4 (a b : Int) : opI 4 a b = wrap64 ((toU a &&& toU b : Nat) : Int) := by simp [opI]
theorem opI_5 (a b : Int) : opI 5 a b = wrap64 ((toU a ||| toU b : Nat) : Int) := by simp [opI]
theorem opI_6 (a b : Int) : opI 6 a b = wrap64 ((toU a ^^^ toU b : Nat) : Int) := by simp [opI]
theorem opI_7 (a b : Int) : opI 7 a b = wrap64 ((toU a * 2 ^ (toU b % 64) : Nat) : Int) := by simp [opI]
theorem opI_8 (a b : Int) : opI 8 a b = wrap64 ((toU a / 2 ^ (toU b % 64) : Nat) : Int) := by simp [opI]
theorem opI_9 (a b : Int) : opI 9 a b = wrap64 ((toU a / toU b : Nat) : Int) := by simp [opI]
theorem opI_10 (a b : Int) : opI 10 a b = wrap64 ((toU a % toU b : Nat) : Int) := by simp [opI]

end Go.Proofs.Ytedbfjjjfmmffab

/-
  Plain arithmetic, no Go in sight: what chapter 5 says of what is known of numbers, and that what is known is so.
-/
namespace Go.Proofs.Ytedbfjjjfmmffab
open Go.RowKit

/-- Bits as they are read: from 0 to 16, or 17. -/
def bnd (k : Int) : Int := if k < 0 ∨ 16 < k then 17 else k

/-- Does a number fit Bits? -/
def hasI (k n : Int) : Bool := decide (bnd k = 17 ∨ (0 ≤ n ∧ n < 2 ^ (bnd k).toNat))

/-- The least Bits that a number fits. -/
def fitI (n : Int) : Int := bnd (bitLen (toU n) : Int)

/-- The Bits of what an operation makes, of Bits from 0 to 17. -/
def opB (op a b : Int) : Int :=
  if op = 1 then (if a = 0 ∨ b = 0 then max a b else bnd (max a b + 1))
  else if op = 3 then (if a = 0 ∨ b = 0 then 0 else bnd (a + b))
  else if op = 4 then min a b
  else if op = 5 ∨ op = 6 then max a b
  else if op = 8 ∨ op = 9 ∨ op = 10 then a
  else 17

theorem bnd_range (k : Int) : 0 ≤ bnd k ∧ bnd k ≤ 17 := by unfold bnd; split <;> omega
theorem bnd_id {k : Int} (h0 : 0 ≤ k) (h1 : k ≤ 17) : bnd k = k := by unfold bnd; split <;> omega
theorem bnd_bnd (k : Int) : bnd (bnd k) = bnd k := bnd_id (bnd_range k).1 (bnd_range k).2
theorem bnd_out {k : Int} (h : k < 0 ∨ 16 < k) : bnd k = 17 := by unfold bnd; rw [if_pos h]
theorem bnd_in {k : Int} (h0 : 0 ≤ k) (h1 : k ≤ 16) : bnd k = k := bnd_id h0 (by omega)

theorem bitLen_le (u b : Nat) : bitLen u ≤ b ↔ u < 2 ^ b := by
  have ⟨h1, h2⟩ := bitLen_spec u
  constructor
  · intro h; exact Nat.lt_of_lt_of_le h1 (Nat.pow_le_pow_right (by decide) h)
  · intro h
    by_cases h0 : u = 0
    · subst h0; simp [bitLen]
    · have h3 := h2 h0
      have h4 : 2 ^ (bitLen u - 1) < 2 ^ b := Nat.lt_of_le_of_lt h3 h
      have h5 := (Nat.pow_lt_pow_iff_right (a := 2) (by decide)).1 h4
      omega

theorem pow_le16 {b : Nat} (h : b ≤ 16) : 2 ^ b ≤ 65536 := Nat.pow_le_pow_right (n := 2) (by decide) h

theorem toU_pos {n : Int} (h0 : 0 ≤ n) (h1 : n ≤ 9223372036854775807) : ((toU n : Nat) : Int) = n := by rw [toU_cast]; omega
theorem toU_neg {n : Int} (h0 : n < 0) (h1 : -9223372036854775808 ≤ n) : 9223372036854775808 ≤ toU n := by unfold toU; omega

/-- A number fits some Bits up to 16 just if the least that it fits are not more. -/
theorem fits_iff {n : Int} (h0 : -9223372036854775808 ≤ n) (h1 : n ≤ 9223372036854775807) {b : Nat} (hb : b ≤ 16) :
    fitI n ≤ (b : Int) ↔ (0 ≤ n ∧ n < 2 ^ b) := by
  have hp := pow_le16 hb
  have hl := bitLen_le (toU n) b
  have hf : fitI n ≤ (b : Int) ↔ bitLen (toU n) ≤ b := by unfold fitI bnd; split <;> omega
  rw [hf, hl]
  have hc : ((2 ^ b : Nat) : Int) = 2 ^ b := by push_cast; rfl
  rw [← hc]
  by_cases hn : n < 0
  · have := toU_neg hn h0; omega
  · have := toU_pos (n := n) (by omega) h1; omega

theorem hasI_fit {n : Int} (h0 : -9223372036854775808 ≤ n) (h1 : n ≤ 9223372036854775807) (k : Int) :
    hasI k n = decide (fitI n ≤ bnd k) := by
  unfold hasI
  congr 1
  apply propext
  have hr := bnd_range k
  have hf : fitI n ≤ 17 := (bnd_range _).2
  by_cases h : bnd k = 17
  · rw [h]; simp [hf]
  · have h2 := fits_iff h0 h1 (b := (bnd k).toNat) (by omega)
    rw [show (((bnd k).toNat : Nat) : Int) = bnd k by omega] at h2
    rw [h2]; simp [h]

theorem fit_range (n : Int) : 0 ≤ fitI n ∧ fitI n ≤ 17 := bnd_range _

theorem hasI_own {n : Int} (h0 : -9223372036854775808 ≤ n) (h1 : n ≤ 9223372036854775807) : hasI (fitI n) n = true := by
  rw [hasI_fit h0 h1, decide_eq_true_eq, bnd_id (fit_range n).1 (fit_range n).2]; exact Int.le_refl _

theorem hasI_mono {n k k' : Int} (h0 : -9223372036854775808 ≤ n) (h1 : n ≤ 9223372036854775807) (h : hasI k n = true) (hk : bnd k ≤ bnd k') : hasI k' n = true := by
  rw [hasI_fit h0 h1, decide_eq_true_eq] at *; omega

theorem hasI_any {k n : Int} (h : bnd k = 17) : hasI k n = true := by unfold hasI; simp [h]
theorem hasI_some {k n : Int} (hk : bnd k ≤ 16) (h : hasI k n = true) : 0 ≤ n ∧ n < 2 ^ (bnd k).toNat ∧ n < 65536 := by
  unfold hasI at h
  rw [decide_eq_true_eq] at h
  have hr := bnd_range k
  have hp := pow_le16 (b := (bnd k).toNat) (by omega)
  have hc : ((2 ^ (bnd k).toNat : Nat) : Int) = 2 ^ (bnd k).toNat := by push_cast; rfl
  rw [← hc] at h ⊢
  omega
theorem hasI_mk {k n : Int} (h0 : 0 ≤ n) (h1 : n < 2 ^ (bnd k).toNat) : hasI k n = true := by
  unfold hasI; rw [decide_eq_true_eq]; exact .inr ⟨h0, h1⟩

/-- A number that is not greater than another one, from 0 on, fits what that one fits. -/
theorem hasI_less {a b n m : Int} (n0 : -9223372036854775808 ≤ n) (n1 : n ≤ 9223372036854775807) (m0 : -9223372036854775808 ≤ m) (m1 : m ≤ 9223372036854775807)
    (ha : hasI a n = true) (hb : hasI b m = true) (h : toU n ≤ toU m) : hasI (min (bnd a) (bnd b)) n = true := by
  have ra := bnd_range a
  have rb := bnd_range b
  by_cases h1 : bnd a ≤ bnd b
  · refine hasI_mono n0 n1 ha ?_
    rw [show min (bnd a) (bnd b) = bnd a by omega, bnd_bnd]; exact Int.le_refl _
  · have h2 : bnd b ≤ 16 := by omega
    have ⟨m2, m3, m4⟩ := hasI_some h2 hb
    rw [show min (bnd a) (bnd b) = bnd b by omega]
    have um := toU_pos m2 m1
    have hn : 0 ≤ n := by
      by_cases h3 : n < 0
      · have := toU_neg h3 n0; omega
      · omega
    have un := toU_pos hn n1
    refine hasI_mk hn ?_
    rw [bnd_bnd]; omega

theorem wrap_small {n : Int} (h0 : 0 ≤ n) (h1 : n ≤ 9223372036854775807) : wrap64 n = n := by unfold wrap64; omega

theorem pow_castI (k : Nat) : ((2 ^ k : Nat) : Int) = 2 ^ k := by push_cast; rfl

/-- What is known is so: of each operation. -/
theorem known_op (op : Int) {a b n m : Int} (n0 : -9223372036854775808 ≤ n) (n1 : n ≤ 9223372036854775807) (m0 : -9223372036854775808 ≤ m) (m1 : m ≤ 9223372036854775807)
    (ha : hasI a n = true) (hb : hasI b m = true) : hasI (opB op (bnd a) (bnd b)) (opI op n m) = true := by
  have ra := bnd_range a
  have rb := bnd_range b
  by_cases hres : bnd (opB op (bnd a) (bnd b)) = 17
  · exact hasI_any hres
  have rr := bnd_range (opB op (bnd a) (bnd b))
  -- what is known of the one, if anything is
  have ka : bnd a ≤ 16 → 0 ≤ n ∧ n < ((2 ^ (bnd a).toNat : Nat) : Int) ∧ n < 65536 := fun h => by rw [pow_castI]; exact hasI_some h ha
  have kb : bnd b ≤ 16 → 0 ≤ m ∧ m < ((2 ^ (bnd b).toNat : Nat) : Int) ∧ m < 65536 := fun h => by rw [pow_castI]; exact hasI_some h hb
  have mk : ∀ (k : Nat) (r : Int), opB op (bnd a) (bnd b) = (k : Int) → k ≤ 16 → opI op n m = r → 0 ≤ r → r < ((2 ^ k : Nat) : Int) → hasI (opB op (bnd a) (bnd b)) (opI op n m) = true := by
    intro k r e hk er h0 h1
    rw [e, er]
    refine hasI_mk h0 ?_
    rw [bnd_in (by omega) (by omega), Int.toNat_natCast, ← pow_castI]; exact h1
  generalize hA : bnd a = A at *
  generalize hB : bnd b = B at *
  by_cases h1 : op = 1
  · subst h1
    rw [show opB 1 A B = if A = 0 ∨ B = 0 then max A B else bnd (max A B + 1) by simp [opB]] at *
    by_cases hz : A = 0 ∨ B = 0
    · rw [if_pos hz] at *
      rw [bnd_id (by omega) (by omega)] at hres
      have qa := ka (by omega); have qb := kb (by omega)
      rcases hz with h | h
      · subst h
        have : n = 0 := by have := qa.2.1; simp at this; omega
        subst this
        refine mk B.toNat m (by omega) (by omega) ?_ qb.1 qb.2.1
        rw [opI_1, wrap_small (by omega) (by omega)]; omega
      · subst h
        have : m = 0 := by have := qb.2.1; simp at this; omega
        subst this
        refine mk A.toNat n (by omega) (by omega) ?_ qa.1 qa.2.1
        rw [opI_1, wrap_small (by omega) (by omega)]; omega
    · rw [if_neg hz] at *
      rw [bnd_bnd] at hres
      have hm : max A B + 1 ≤ 16 := by
        by_cases h : max A B + 1 ≤ 16
        · exact h
        · exact absurd (bnd_out (by omega)) hres
      have qa := ka (by omega); have qb := kb (by omega)
      refine mk (max A B + 1).toNat (n + m) (by rw [bnd_in (by omega) hm]; omega) (by omega) ?_ (by omega) ?_
      · rw [opI_1, wrap_small (by omega) (by omega)]
      · have e : (max A B + 1).toNat = (max A B).toNat + 1 := by omega
        have pa : 2 ^ A.toNat ≤ 2 ^ (max A B).toNat := Nat.pow_le_pow_right (by decide) (by omega)
        have pb : 2 ^ B.toNat ≤ 2 ^ (max A B).toNat := Nat.pow_le_pow_right (by decide) (by omega)
        rw [e, Nat.pow_succ]; omega
  by_cases h3 : op = 3
  · subst h3
    rw [show opB 3 A B = if A = 0 ∨ B = 0 then 0 else bnd (A + B) by simp [opB]] at *
    by_cases hz : A = 0 ∨ B = 0
    · rw [if_pos hz] at *
      refine mk 0 0 rfl (by omega) ?_ (by omega) (by decide)
      rcases hz with h | h
      · subst h
        have qa := ka (by omega)
        have : n = 0 := by have := qa.2.1; simp at this; omega
        subst this
        rw [opI_3, Int.zero_mul]; exact wrap_small (by omega) (by omega)
      · subst h
        have qb := kb (by omega)
        have : m = 0 := by have := qb.2.1; simp at this; omega
        subst this
        rw [opI_3, Int.mul_zero]; exact wrap_small (by omega) (by omega)
    · rw [if_neg hz] at *
      rw [bnd_bnd] at hres
      have hm : A + B ≤ 16 := by
        by_cases h : A + B ≤ 16
        · exact h
        · exact absurd (bnd_out (by omega)) hres
      have qa := ka (by omega); have qb := kb (by omega)
      obtain ⟨x, rfl⟩ := Int.eq_ofNat_of_zero_le qa.1
      obtain ⟨y, rfl⟩ := Int.eq_ofNat_of_zero_le qb.1
      have hxy : x * y < 2 ^ (A.toNat + B.toNat) := by
        rw [Nat.pow_add]
        exact Nat.mul_lt_mul'' (by omega) (by omega)
      have hp := pow_le16 (b := A.toNat + B.toNat) (by omega)
      refine mk (A + B).toNat ((x * y : Nat) : Int) (by rw [bnd_in (by omega) hm]; omega) (by omega) ?_ (by omega) ?_
      · rw [opI_3, show (x : Int) * (y : Int) = ((x * y : Nat) : Int) by push_cast; rfl, wrap_small (by omega) (by omega)]
      · rw [show (A + B).toNat = A.toNat + B.toNat by omega]; omega
  by_cases h4 : op = 4
  · subst h4
    rw [show opB 4 A B = min A B by simp [opB]] at *
    rw [bnd_id (by omega) (by omega)] at hres
    have hle : ((toU n &&& toU m : Nat)) < 2 ^ (min A B).toNat := by
      by_cases h : A ≤ B
      · have qa := ka (by omega)
        have := toU_pos qa.1 n1
        have h5 : toU n &&& toU m ≤ toU n := Nat.and_le_left
        rw [show (min A B).toNat = A.toNat by omega]; omega
      · have qb := kb (by omega)
        have := toU_pos qb.1 m1
        have h5 : toU n &&& toU m ≤ toU m := Nat.and_le_right
        rw [show (min A B).toNat = B.toNat by omega]; omega
    have hp := pow_le16 (b := (min A B).toNat) (by omega)
    refine mk (min A B).toNat ((toU n &&& toU m : Nat) : Int) (by omega) (by omega) ?_ (by omega) (by omega)
    rw [opI_4, wrap_small (by omega) (by omega)]
  by_cases h5 : op = 5
  · subst h5
    rw [show opB 5 A B = max A B by simp [opB]] at *
    rw [bnd_id (by omega) (by omega)] at hres
    have qa := ka (by omega); have qb := kb (by omega)
    have un := toU_pos qa.1 n1; have um := toU_pos qb.1 m1
    have pa : 2 ^ A.toNat ≤ 2 ^ (max A B).toNat := Nat.pow_le_pow_right (by decide) (by omega)
    have pb : 2 ^ B.toNat ≤ 2 ^ (max A B).toNat := Nat.pow_le_pow_right (by decide) (by omega)
    have hle : (toU n ||| toU m : Nat) < 2 ^ (max A B).toNat := Nat.or_lt_two_pow (by omega) (by omega)
    have hp := pow_le16 (b := (max A B).toNat) (by omega)
    refine mk (max A B).toNat ((toU n ||| toU m : Nat) : Int) (by omega) (by omega) ?_ (by omega) (by omega)
    rw [opI_5, wrap_small (by omega) (by omega)]
  by_cases h6 : op = 6
  · subst h6
    rw [show opB 6 A B = max A B by simp [opB]] at *
    rw [bnd_id (by omega) (by omega)] at hres
    have qa := ka (by omega); have qb := kb (by omega)
    have un := toU_pos qa.1 n1; have um := toU_pos qb.1 m1
    have pa : 2 ^ A.toNat ≤ 2 ^ (max A B).toNat := Nat.pow_le_pow_right (by decide) (by omega)
    have pb : 2 ^ B.toNat ≤ 2 ^ (max A B).toNat := Nat.pow_le_pow_right (by decide) (by omega)
    have hle : (toU n ^^^ toU m : Nat) < 2 ^ (max A B).toNat := Nat.xor_lt_two_pow (by omega) (by omega)
    have hp := pow_le16 (b := (max A B).toNat) (by omega)
    refine mk (max A B).toNat ((toU n ^^^ toU m : Nat) : Int) (by omega) (by omega) ?_ (by omega) (by omega)
    rw [opI_6, wrap_small (by omega) (by omega)]
  by_cases h8 : op = 8 ∨ op = 9 ∨ op = 10
  · have e : opB op A B = A := by unfold opB; rw [if_neg h1, if_neg h3, if_neg h4, if_neg (by omega), if_pos h8]
    rw [e] at hres mk ⊢
    rw [bnd_id (by omega) (by omega)] at hres
    have qa := ka (by omega)
    have un := toU_pos qa.1 n1
    have fin : ∀ v : Nat, v ≤ toU n → opI op n m = wrap64 (v : Int) → hasI A (opI op n m) = true := by
      intro v hv ev
      refine mk A.toNat (v : Int) (by omega) (by omega) ?_ (by omega) (by omega)
      rw [ev, wrap_small (by omega) (by omega)]
    rcases h8 with h | h | h
    · subst h; exact fin _ (Nat.div_le_self _ _) (opI_8 n m)
    · subst h; exact fin _ (Nat.div_le_self _ _) (opI_9 n m)
    · subst h; exact fin _ (Nat.mod_le _ _) (opI_10 n m)
  · exfalso
    have e : opB op A B = 17 := by unfold opB; rw [if_neg h1, if_neg h3, if_neg h4, if_neg (by omega), if_neg h8]
    rw [e] at hres
    exact hres (bnd_id (by omega) (by omega))

end Go.Proofs.Ytedbfjjjfmmffab

/-
  What a call of bits.Len64, of known.bounded and of known.fitting does.
-/
namespace Go.Proofs.Ytedbfjjjfmmffab
open Go.RowKit

theorem bl_eq : ∀ n x : Nat, x ≤ n → x < 18446744073709551616 → Lib.bitLen x = Go.bitLen x
  | 0, x, h, _ => by
    obtain rfl : x = 0 := by omega
    simp [Lib.bitLen, Lib.bitLenAux, Go.bitLen]
  | n + 1, x, h, hx => by
    by_cases h0 : x = 0
    · subst h0; simp [Lib.bitLen, Lib.bitLenAux, Go.bitLen]
    · rw [Lib.bitLen_half x h0 hx, bl_eq n (x / 2) (by omega) (by omega)]
      by_cases h1 : x / 2 = 0
      · obtain rfl : x = 1 := by omega
        decide +kernel
      · have := Go.bitLen_shift x 1 (by simpa using h1)
        rw [Nat.pow_one] at this
        exact this.symm

theorem tab_len (i : Nat) (h : i < Lib.len8tab.size) : (Lib.len8tab[i]).toNat = Lib.bitLen i := by
  have e := Lib.len8_eq ⟨i, by rw [Lib.len8tab_size] at h; exact h⟩
  simp only [Lib.len8, Int.toNat_natCast, ByteArray.getElem?_lt' _ _ h, Option.getD_some] at e
  exact_mod_cast e

theorem tab_end {x q : Int} (k : Nat) (v : Nat) (hv : v = Lib.bitLen q.toNat) (h0 : 0 ≤ x) (h1 : x ≤ 18446744073709551615) (q0 : 0 ≤ q) (q1 : q < 256) (hq : q.toNat = x.toNat / 2 ^ k) (hk : k ≤ 56) (hp : q ≠ 0) :
    wrap64 ((k : Int) + wrap64 (v : Int)) = (Lib.bitLen x.toNat : Int) := by
  have l := Lib.bitLen_le8' q q0 (by omega)
  have s := Lib.bitLen_shift k x.toNat (by
    have h2 : x.toNat / 2 ^ k ≠ 0 := by omega
    rcases Nat.lt_or_ge x.toNat (2 ^ k) with h | h
    · exact absurd (Nat.div_eq_of_lt h) h2
    · exact h) (by
      have e : (2 : Nat) ^ 64 = 18446744073709551616 := by decide +kernel
      rw [e]; omega)
  rw [s, ← hq, ← hv]
  rw [← hv] at l
  clear s hv hq hp q1 q0 h0 h1
  unfold wrap64
  omega

set_option maxHeartbeats 4000000 in
set_option maxRecDepth 100000 in
theorem len64_calls (x : Int) (w : World) (h0 : 0 ≤ x) (h1 : x ≤ 18446744073709551615) :
    Calls Try.prog 42 #[.int .u64 x] w fun e w' => e = .returned (.int .i64 (Lib.bitLen x.toNat)) ∧ w' = w := by
  have hsz := Lib.len8tab_size
  go_enter Try.func42, Try.ntmps42
  go_wp2
  all_goals (go_ret; refine ⟨congrArg Ending.returned (congrArg (Value.int IntKind.i64) ?_), rfl⟩)
  all_goals first
    | (exact tab_end (x := x) (q := x / 4294967296 / 65536 / 256) 56 _ (tab_len _ _) (by omega) (by omega) (by omega) (by omega) (by rw [show (2 ^ 56 : Nat) = 72057594037927936 by decide +kernel]; omega) (by omega) (by omega))
    | (exact tab_end (x := x) (q := x / 4294967296 / 65536) 48 _ (tab_len _ _) (by omega) (by omega) (by omega) (by omega) (by rw [show (2 ^ 48 : Nat) = 281474976710656 by decide +kernel]; omega) (by omega) (by omega))
    | (exact tab_end (x := x) (q := x / 4294967296 / 256) 40 _ (tab_len _ _) (by omega) (by omega) (by omega) (by omega) (by rw [show (2 ^ 40 : Nat) = 1099511627776 by decide +kernel]; omega) (by omega) (by omega))
    | (exact tab_end (x := x) (q := x / 4294967296) 32 _ (tab_len _ _) (by omega) (by omega) (by omega) (by omega) (by rw [show (2 ^ 32 : Nat) = 4294967296 by decide +kernel]; omega) (by omega) (by omega))
    | (exact tab_end (x := x) (q := x / 65536 / 256) 24 _ (tab_len _ _) (by omega) (by omega) (by omega) (by omega) (by rw [show (2 ^ 24 : Nat) = 16777216 by decide +kernel]; omega) (by omega) (by omega))
    | (exact tab_end (x := x) (q := x / 65536) 16 _ (tab_len _ _) (by omega) (by omega) (by omega) (by omega) (by rw [show (2 ^ 16 : Nat) = 65536 by decide +kernel]; omega) (by omega) (by omega))
    | (exact tab_end (x := x) (q := x / 256) 8 _ (tab_len _ _) (by omega) (by omega) (by omega) (by omega) (by rw [show (2 ^ 8 : Nat) = 256 by decide +kernel]; omega) (by omega) (by omega))
    | (rw [tab_len]
       have l := Lib.bitLen_le8' x h0 (by omega)
       unfold wrap64
       omega)

/-- known.bounded. -/
theorem bounded_calls (k : Int) (w : World) :
    Calls Try.prog 20 #[.int .i64 k] w fun e w' => e = .returned (.int .i64 (bnd k)) ∧ w' = w := by
  by_cases h : k < 0
  · rw [bnd_out (.inl h)]
    go_enter Try.func20, Try.ntmps20
    go_wp2
    go_ret
    exact ⟨rfl, rfl⟩
  by_cases h2 : 16 < k
  · rw [bnd_out (.inr h2)]
    go_enter Try.func20, Try.ntmps20
    go_wp2
    go_ret
    exact ⟨rfl, rfl⟩
  · rw [bnd_in (by omega) (by omega)]
    go_enter Try.func20, Try.ntmps20
    go_wp2
    go_ret
    exact ⟨rfl, rfl⟩

/-- known.fitting. -/
theorem fitting_calls (n : Int) (w : World) :
    Calls Try.prog 21 #[.int .i64 n] w fun e w' => e = .returned (.int .i64 (fitI n)) ∧ w' = w := by
  obtain ⟨l, hl⟩ : ∃ l : Int, ((Lib.bitLen (toU n) : Nat) : Int) = l := ⟨_, rfl⟩
  have hf : fitI n = bnd l := by unfold fitI; rw [← hl, bl_eq _ _ (Nat.le_refl _) (toU_lt n)]
  have c : ∀ w : World, Calls Try.prog 42 #[.int .u64 (IntKind.u64.wrap n)] w fun e w' => e = .returned (.int .i64 l) ∧ w' = w := by
    intro w
    have := len64_calls (IntKind.u64.wrap n) w (by rw [uwrap]; omega) (by rw [uwrap]; have := toU_lt n; omega)
    rw [uwrap, Int.toNat_natCast, hl] at this
    rw [uwrap]; exact this
  rw [hf]
  clear hf hl
  obtain ⟨b, hb⟩ : ∃ b, bnd l = b := ⟨_, rfl⟩
  have c2 : ∀ w : World, Calls Try.prog 20 #[.int .i64 l] w fun e w' => e = .returned (.int .i64 b) ∧ w' = w := fun w => hb ▸ bounded_calls l w
  rw [hb]
  clear hb
  go_enter Try.func21, Try.ntmps21
  go_wp2_with (fail)
  refine (c _).mono ?_
  rintro e w1 ⟨rfl, rfl⟩
  go_wp2_with (fail)
  refine (c2 _).mono ?_
  rintro e w1 ⟨rfl, rfl⟩
  go_wp2
  go_ret
  exact ⟨rfl, rfl⟩

end Go.Proofs.Ytedbfjjjfmmffab

/-
  A statement whose order of evaluation is left open: one walk, in an order that is named, serves every order: what only reads is taken first; what calls or makes memory is met when nothing else can come up. No Go text in sight.
-/
namespace Go.Proofs.Ytedbfjjjfmmffab
open Go

section
variable {P : Program} {ops : Array Oper} {Q : Exit → Act → World → Prop} {md : Region.Mode} {S : World → Prop}

/-- The named order: an operation's number, and whether it is taken first (true) or is the only one that may come up (false). -/
def ordB (md : Region.Mode) (ops : Array Oper) : List (Nat × Bool) → Array Bool → Bool
  | [], listed => (Region.ready md ops listed).isEmpty
  | (i, t) :: rest, listed =>
    (ops[i]?).isSome && (if t then Region.free md ops listed i && (Region.ready md ops listed).contains i else Region.ready md ops listed == [i]) &&
      ordB md ops rest (listed.setIfInBounds i true)

/-- An operation that reads alone: one value in every world that meets S. -/
def OrdTake (P : Program) (ops : Array Oper) (S : World → Prop) (o : Oper) (a : Act) (w : World) (K : Act → World → Prop) : Prop :=
  if Region.wanted o (yielded ops a.tmps) = true then ∃ v, (∀ i : { w' // S w' }, (execOp a.eval o).run P i.val = .ok (.value v) i.val) ∧ K (a.put o.dst v) w
  else K (a.put o.dst undef) w

/-- One that calls or makes memory: behind it S holds anew. -/
def OrdBusy (P : Program) (ops : Array Oper) (Q : Exit → Act → World → Prop) (o : Oper) (a : Act) (w : World) (K : Act → World → Prop) : Prop :=
  if Region.wanted o (yielded ops a.tmps) = true then Oper.wp P o a w K Q else K (a.put o.dst undef) w

def wpOrd (P : Program) (ops : Array Oper) (Q : Exit → Act → World → Prop) (S : World → Prop) : List (Nat × Bool) → Act → World → Prop
  | [], a, w => Q .normal a w
  | (i, t) :: rest, a, w =>
    match ops[i]? with
    | none => False
    | some o => if t then OrdTake P ops S o a w (fun a' w' => wpOrd P ops Q S rest a' w') else OrdBusy P ops Q o a w (fun a' w' => S w' ∧ wpOrd P ops Q S rest a' w')

theorem wpOrd_held (hs : Region.noSelect ops = true) (hQ : ∀ c (a : Act) d v w, Q (.panic c) (a.put d v) w → Q (.panic c) a w) :
    ∀ (l : List (Nat × Bool)) (listed : Array Bool) (a : Act) (w : World), ordB md ops l listed = true → S w → wpOrd P ops Q S l a w → wpAnyH P md ops Q S l.length listed a w
  | [], listed, a, w, hB, _, h => ⟨by simpa [ordB] using hB, h⟩
  | (i, t) :: rest, listed, a, w, hB, hS, h => by
    simp only [ordB, Bool.and_eq_true] at hB
    obtain ⟨⟨ho, hc⟩, hB'⟩ := hB
    obtain ⟨o, ho⟩ := Option.isSome_iff_exists.1 ho
    simp only [wpOrd, ho] at h
    cases t with
    | true =>
      simp only [if_true, Bool.and_eq_true] at hc h
      unfold OrdTake at h
      by_cases hw : Region.wanted o (yielded ops a.tmps) = true
      · rw [if_pos hw] at h
        obtain ⟨v, hv, hk⟩ := h
        exact wpAnyH_take ho hs hc.1 hc.2 (fun c a w => hQ c a _ _ w) (.inl ⟨hw, fun w' hw' => hv ⟨w', hw'⟩⟩) hS (wpOrd_held hs hQ rest _ _ _ hB' hS hk)
      · rw [if_neg hw] at h
        exact wpAnyH_take ho hs hc.1 hc.2 (fun c a w => hQ c a _ _ w) (.inr ⟨by simpa using hw, rfl⟩) hS (wpOrd_held hs hQ rest _ _ _ hB' hS h)
    | false =>
      simp only [Bool.false_eq_true, if_false, beq_iff_eq] at hc h
      refine wpAnyH_all hc (by simp) (fun j hj => ?_)
      obtain rfl : j = i := by simpa using hj
      unfold OrdBusy at h
      unfold wpOp
      rw [ho]
      show if Region.wanted o (yielded ops a.tmps) = true then _ else _
      by_cases hw : Region.wanted o (yielded ops a.tmps) = true
      · rw [if_pos hw] at h ⊢
        exact .inl (Oper.wp_mono (fun a' w' h' => ⟨h'.1, wpOrd_held hs hQ rest _ _ _ hB' h'.1 h'.2⟩) h)
      · rw [if_neg hw] at h ⊢
        exact ⟨hS, wpOrd_held hs hQ rest _ _ _ hB' h.1 h.2⟩

/-- The walk as a structure, so that nothing looks into it unasked. -/
structure Ord (P : Program) (ops : Array Oper) (Q : Exit → Act → World → Prop) (S : World → Prop) (l : List (Nat × Bool)) (a : Act) (w : World) : Prop where
  out : wpOrd P ops Q S l a w

/-- A region that asks the tape, by a named order. -/
theorem wp_region_ord {id : Nat} {a : Act} {w : World} (l : List (Nat × Bool)) (hm : P.follows .mixedOrders = true) (hs : Region.noSelect ops = true)
    (hB : (ordB .any ops l (Array.replicate ops.size false) && l.length == ops.size) = true) (hS : S w.drew) (h : Ord P ops (NoPanic Q) S l a w.drew) : (Code.region id ops true).wp P Q a w := by
  rw [Bool.and_eq_true] at hB
  have hl : l.length = ops.size := by simpa using hB.2
  refine wp_region_noPanic (wp_region_held_drew (S := S) hm hS (fun _ => ?_))
  rw [← hl]
  have := wpOrd_held (P := P) (md := .any) (S := S) (Q := NoPanic Q) hs (fun _ _ _ _ _ h => h) l (Array.replicate ops.size false) a w.drew hB.1 hS h.out
  rwa [← hl] at this

/-! One operation at a time, what follows behind a variable. -/
def nth {α : Type} : List α → Nat → Option α
  | [], _ => none
  | x :: _, 0 => some x
  | _ :: l, n + 1 => nth l n
theorem nth_at {α : Type} : ∀ (l : List α) (n : Nat), nth l n = l[n]?
  | [], _ => rfl
  | _ :: _, 0 => rfl
  | _ :: l, n + 1 => by rw [nth, nth_at l n]; rfl
theorem nth_arr {α : Type} {l : List α} {n : Nat} {x : α} (h : nth l n = some x) : l.toArray[n]? = some x := by rw [List.getElem?_toArray, ← nth_at]; exact h

theorem wpOrd_take {ls : List Oper} {i : Nat} {o : Oper} {rest : List (Nat × Bool)} {a : Act} {w : World} (ho' : nth ls i = some o) (hw : Region.wanted o (yielded ls.toArray a.tmps) = true)
    (h : ∀ K : Act → World → Prop, (∀ a w, Ord P ls.toArray Q S rest a w → K a w) → ∃ v, (∀ i : { w' // S w' }, (execOp a.eval o).run P i.val = .ok (.value v) i.val) ∧ K (a.put o.dst v) w) :
    Ord P ls.toArray Q S ((i, true) :: rest) a w := by
  have ho := nth_arr ho'
  refine ⟨?_⟩
  simp only [wpOrd, ho]
  unfold OrdTake
  simp only [if_true]
  rw [if_pos hw]
  exact h _ (fun _ _ h => h.out)
theorem wpOrd_busy {ls : List Oper} {i : Nat} {o : Oper} {rest : List (Nat × Bool)} {a : Act} {w : World} (ho' : nth ls i = some o) (hw : Region.wanted o (yielded ls.toArray a.tmps) = true)
    (h : ∀ K : Act → World → Prop, (∀ a w, S w → Ord P ls.toArray Q S rest a w → K a w) → Oper.wp P o a w K Q) : Ord P ls.toArray Q S ((i, false) :: rest) a w := by
  have ho := nth_arr ho'
  refine ⟨?_⟩
  simp only [wpOrd, ho, Bool.false_eq_true, if_false]
  unfold OrdBusy
  rw [if_pos hw]
  exact h _ (fun _ _ hs h => ⟨hs, h.out⟩)
/-- A move, an assignment. -/
theorem wpOrd_move {ls : List Oper} {i : Nat} {o : Oper} {x : Operand} {rest : List (Nat × Bool)} {a : Act} {w : World} (ho' : nth ls i = some o) (hop : o.op = .move x)
    (hw : Region.wanted o (yielded ls.toArray a.tmps) = true)
    (h : ∀ K : Act → World → Prop, (∀ a w, Ord P ls.toArray Q S rest a w → K a w) → K (a.put o.dst (a.eval x)) w) : Ord P ls.toArray Q S ((i, true) :: rest) a w := by
  refine wpOrd_take ho' hw (fun K hK => ⟨a.eval x, fun i => ?_, h K hK⟩)
  unfold execOp
  rw [hop]
  rfl
theorem wpOrd_assign {ls : List Oper} {i : Nat} {o : Oper} {x : Operand} {rest : List (Nat × Bool)} {a : Act} {w : World} (ho' : nth ls i = some o) (hop : o.op = .assign x)
    (hw : Region.wanted o (yielded ls.toArray a.tmps) = true)
    (h : ∀ K : Act → World → Prop, (∀ a w, Ord P ls.toArray Q S rest a w → K a w) → K (a.put o.dst (a.eval x)) w) : Ord P ls.toArray Q S ((i, true) :: rest) a w := by
  refine wpOrd_take ho' hw (fun K hK => ⟨a.eval x, fun i => ?_, h K hK⟩)
  unfold execOp
  rw [hop]
  rfl

/-- A pick whose test is false, or true. -/
theorem wpOrd_pickF {ls : List Oper} {i : Nat} {o : Oper} {c x y : Operand} {rest : List (Nat × Bool)} {a : Act} {w : World} (ho' : nth ls i = some o) (hop : o.op = .pick c x y)
    (hw : Region.wanted o (yielded ls.toArray a.tmps) = true) (hc : a.eval c = .bool false)
    (h : ∀ K : Act → World → Prop, (∀ a w, Ord P ls.toArray Q S rest a w → K a w) → K (a.put o.dst (a.eval y)) w) : Ord P ls.toArray Q S ((i, true) :: rest) a w := by
  have ho := nth_arr ho'
  refine ⟨?_⟩
  simp only [wpOrd, ho]
  unfold OrdTake
  simp only [if_true]
  rw [if_pos hw]
  refine ⟨a.eval y, fun i => ?_, h _ (fun _ _ h => h.out)⟩
  unfold execOp
  rw [hop]
  dsimp only
  rw [hc]
  rfl
theorem wpOrd_pickT {ls : List Oper} {i : Nat} {o : Oper} {c x y : Operand} {rest : List (Nat × Bool)} {a : Act} {w : World} (ho' : nth ls i = some o) (hop : o.op = .pick c x y)
    (hw : Region.wanted o (yielded ls.toArray a.tmps) = true) (hc : a.eval c = .bool true)
    (h : ∀ K : Act → World → Prop, (∀ a w, Ord P ls.toArray Q S rest a w → K a w) → K (a.put o.dst (a.eval x)) w) : Ord P ls.toArray Q S ((i, true) :: rest) a w := by
  have ho := nth_arr ho'
  refine ⟨?_⟩
  simp only [wpOrd, ho]
  unfold OrdTake
  simp only [if_true]
  rw [if_pos hw]
  refine ⟨a.eval x, fun i => ?_, h _ (fun _ _ h => h.out)⟩
  unfold execOp
  rw [hop]
  dsimp only
  rw [hc]
  rfl

/-- One that its guard passes over (its slot is as it was). -/
theorem wpOrd_skip {ls : List Oper} {i : Nat} {o : Oper} {t : Bool} {rest : List (Nat × Bool)} {a : Act} {w : World} (ho' : nth ls i = some o) (hS : S w)
    (hw : Region.wanted o (yielded ls.toArray a.tmps) = false) (hp : a.put o.dst undef = a) (h : Ord P ls.toArray Q S rest a w) : Ord P ls.toArray Q S ((i, t) :: rest) a w := by
  have ho := nth_arr ho'
  refine ⟨?_⟩
  simp only [wpOrd, ho]
  unfold OrdTake OrdBusy
  rw [hw, hp]
  cases t
  · simp only [Bool.false_eq_true, if_false]; exact ⟨hS, h.out⟩
  · simp only [Bool.false_eq_true, if_false, if_true]; exact h.out
/-- One that its guard passes over, whatever its slot held. -/
theorem wpOrd_pass {ls : List Oper} {i : Nat} {o : Oper} {t : Bool} {rest : List (Nat × Bool)} {a : Act} {w : World} (ho' : nth ls i = some o) (hS : S w)
    (hw : Region.wanted o (yielded ls.toArray a.tmps) = false)
    (h : ∀ K : Act → World → Prop, (∀ a w, Ord P ls.toArray Q S rest a w → K a w) → K (a.put o.dst undef) w) : Ord P ls.toArray Q S ((i, t) :: rest) a w := by
  have ho := nth_arr ho'
  refine ⟨?_⟩
  have hk := h (fun a w => wpOrd P ls.toArray Q S rest a w) (fun _ _ h => h.out)
  simp only [wpOrd, ho]
  unfold OrdTake OrdBusy
  rw [hw]
  cases t
  · simp only [Bool.false_eq_true, if_false]; exact ⟨hS, hk⟩
  · simp only [Bool.false_eq_true, if_false, if_true]; exact hk
theorem wpOrd_done {a : Act} {w : World} (h : Q .normal a w) : Ord P ops (NoPanic Q) S [] a w := ⟨h⟩

end
end Go.Proofs.Ytedbfjjjfmmffab

/-
  Plain facts: programs as data, which of them may be, and how they lie in memory; worlds that have grown. No Go text in sight.
-/
namespace Go.Proofs.Ytedbfjjjfmmffab
open Go.RowKit

/-! ### A world with new blocks: what was there is as it was -/
def More (w w' : World) : Prop := Below w.heap.size w w'

theorem More.refl (w : World) : More w w := Below.refl _ _
theorem More.size {w w' : World} (h : More w w') : w.heap.size ≤ w'.heap.size := Below.size h
theorem More.block {w w' : World} (h : More w w') (i : Nat) (hi : i < w.heap.size) : w'.heap[i]? = w.heap[i]? := Below.block h i hi
theorem More.trans {a b c : World} (h : More a b) (k : More b c) : More a c := Below.trans h (Below.mono k h.size)
theorem More.alloc {w w' : World} (h : More w w') (c : Array Value) (t : TypeId) : More w (w'.alloc (.cells c t)) := Below.alloc h h.size _
theorem More.setCell {w w' : World} (h : More w w') {a : Addr} (ha : w.heap.size ≤ a.block) (v : Value) : More w (w'.setCell a v) := Below.setCell h ha v
theorem More.drew {w w' : World} (h : More w w') : More w w'.drew := Below.drew h
theorem More.grownBy {w w1 w2 : World} {row : Option Nat} (h : More w w1) (hg : w1.grownBy w2 row) (hr : ∀ k, row = some k → w.heap.size ≤ k) : More w w2 := Below.grown h hg h.size hr
theorem cell_block {w : World} {a : Addr} {v : Value} (h : w.cell? a = some v) : a.block < w.heap.size := by
  rcases Nat.lt_or_ge a.block w.heap.size with h' | h'
  · exact h'
  · have e : w.heap[a.block]? = none := by simp [h']
    unfold World.cell? at h
    simp [e] at h
theorem More.cell {w w' : World} (h : More w w') {a : Addr} {v : Value} (hc : w.cell? a = some v) : w'.cell? a = some v := by
  rw [Below.cell h (cell_block hc)]; exact hc

/-! ### What a call tells that answers a bool -/
def Says (P : Prop) (w : World) (e : Ending) (w' : World) : Prop := ∃ r : Bool, e = .returned (.bool r) ∧ (r = true ↔ P) ∧ More w w'

theorem Says.yes {P : Prop} {w w' : World} (h : P) (m : More w w') : Says P w (.returned (.bool true)) w' := ⟨true, rfl, by simp [h], m⟩
theorem Says.no {P : Prop} {w w' : World} (h : ¬ P) (m : More w w') : Says P w (.returned (.bool false)) w' := ⟨false, rfl, by simp [h], m⟩

/-! ### Programs as data -/
structure Ins where
  op : Int
  a : Int
  b : Int
  c : Int
  n : Int

/-- Regions, by their Log and whether they are secret; instructions. -/
structure Prg where
  rl : Nat
  log : Nat → Int
  sec : Nat → Bool
  cl : Nat
  ins : Nat → Ins

def RegionsOk (rl : Nat) (log : Nat → Int) : Prop := rl ≤ 6 ∧ ∀ i, i < rl → 0 ≤ log i ∧ log i ≤ 6

/-- A register. -/
def Reg (regs x : Int) : Prop := 0 ≤ x ∧ x < regs
/-- The number of a region. -/
def Rgn (rl : Nat) (x : Int) : Prop := 0 ≤ x ∧ x < rl
/-- The number of an instruction. -/
def Plc (cl : Nat) (x : Int) : Prop := 0 ≤ x ∧ x < cl
/-- The number of a word of region x. -/
def Wrd (log : Nat → Int) (c n : Int) : Prop := 0 ≤ n ∧ n < 2 ^ (log c.toNat).toNat

/-- B1: an instruction of a program with so many regions, instructions, registers. -/
def InsOk (rl : Nat) (log : Nat → Int) (cl : Nat) (regs : Int) (i : Ins) : Prop :=
  if i.op = 1 then Reg regs i.a ∧ i.b = 0 ∧ i.c = 0
  else if i.op = 2 then Reg regs i.a ∧ Reg regs i.b ∧ i.c = 0 ∧ i.n = 0
  else if i.op = 3 then Reg regs i.a ∧ Reg regs i.b ∧ Rgn rl i.c
  else if i.op = 4 then Reg regs i.a ∧ Reg regs i.b ∧ Rgn rl i.c
  else if i.op = 5 then Reg regs i.a ∧ i.b = 0 ∧ Rgn rl i.c ∧ Wrd log i.c i.n
  else if i.op = 6 then Reg regs i.a ∧ i.b = 0 ∧ Rgn rl i.c ∧ Wrd log i.c i.n
  else if i.op = 7 then i.a = 0 ∧ i.b = 0 ∧ i.c = 0 ∧ Plc cl i.n
  else if i.op = 8 then Reg regs i.a ∧ Reg regs i.b ∧ (1 ≤ i.c ∧ i.c ≤ 4) ∧ Plc cl i.n
  else if i.op = 9 then Reg regs i.a ∧ i.b = 0 ∧ i.c = 0 ∧ i.n = 0
  else if i.op = 10 then Reg regs i.a ∧ Reg regs i.b ∧ i.c = 0
  else if i.op = 11 then Reg regs i.a ∧ i.b = 0 ∧ i.c = 0 ∧ 1 ≤ i.n ∧ i.n ≤ 64
  else if i.op = 12 then i.a = 0 ∧ i.b = 0 ∧ i.c = 0 ∧ i.n = 0
  else (21 ≤ i.op ∧ i.op ≤ 30) ∧ Reg regs i.a ∧ Reg regs i.b ∧ Reg regs i.c ∧ i.n = 0

def CodeOk (rl : Nat) (log : Nat → Int) (cl : Nat) (ins : Nat → Ins) (most : Nat) (regs : Int) : Prop :=
  1 ≤ cl ∧ cl ≤ most ∧ ∀ i, i < cl → InsOk rl log cl regs (ins i)

/-- B1, with so many instructions and registers at most. -/
def Prg.Ok (p : Prg) (most : Nat) (regs : Int) : Prop := RegionsOk p.rl p.log ∧ CodeOk p.rl p.log p.cl p.ins most regs

theorem InsOk.more {rl : Nat} {log : Nat → Int} {cl : Nat} {r r' : Int} (h : r ≤ r') {i : Ins} (k : InsOk rl log cl r i) : InsOk rl log cl r' i := by
  have up : ∀ x, Reg r x → Reg r' x := fun x hx => ⟨hx.1, Int.lt_of_lt_of_le hx.2 h⟩
  unfold InsOk at k ⊢
  by_cases h1 : i.op = 1
  · rw [if_pos h1] at k ⊢; exact ⟨up _ k.1, k.2⟩
  rw [if_neg h1] at k ⊢
  by_cases h2 : i.op = 2
  · rw [if_pos h2] at k ⊢; exact ⟨up _ k.1, up _ k.2.1, k.2.2⟩
  rw [if_neg h2] at k ⊢
  by_cases h3 : i.op = 3
  · rw [if_pos h3] at k ⊢; exact ⟨up _ k.1, up _ k.2.1, k.2.2⟩
  rw [if_neg h3] at k ⊢
  by_cases h4 : i.op = 4
  · rw [if_pos h4] at k ⊢; exact ⟨up _ k.1, up _ k.2.1, k.2.2⟩
  rw [if_neg h4] at k ⊢
  by_cases h5 : i.op = 5
  · rw [if_pos h5] at k ⊢; exact ⟨up _ k.1, k.2⟩
  rw [if_neg h5] at k ⊢
  by_cases h6 : i.op = 6
  · rw [if_pos h6] at k ⊢; exact ⟨up _ k.1, k.2⟩
  rw [if_neg h6] at k ⊢
  by_cases h7 : i.op = 7
  · rw [if_pos h7] at k ⊢; exact k
  rw [if_neg h7] at k ⊢
  by_cases h8 : i.op = 8
  · rw [if_pos h8] at k ⊢; exact ⟨up _ k.1, up _ k.2.1, k.2.2⟩
  rw [if_neg h8] at k ⊢
  by_cases h9 : i.op = 9
  · rw [if_pos h9] at k ⊢; exact ⟨up _ k.1, k.2⟩
  rw [if_neg h9] at k ⊢
  by_cases h10 : i.op = 10
  · rw [if_pos h10] at k ⊢; exact ⟨up _ k.1, up _ k.2.1, k.2.2⟩
  rw [if_neg h10] at k ⊢
  by_cases h11 : i.op = 11
  · rw [if_pos h11] at k ⊢; exact ⟨up _ k.1, k.2⟩
  rw [if_neg h11] at k ⊢
  by_cases h12 : i.op = 12
  · rw [if_pos h12] at k ⊢; exact k
  rw [if_neg h12] at k ⊢
  exact ⟨k.1, up _ k.2.1, up _ k.2.2.1, up _ k.2.2.2.1, k.2.2.2.2⟩

/-- Each program that may be is hard. -/
theorem Prg.Ok.hard {p : Prg} (h : p.Ok 200 8) : p.Ok 8000 10 :=
  ⟨h.1, h.2.1, by have := h.2.2.1; omega, fun i hi => (h.2.2.2 i hi).more (by decide)⟩

/-! ### Programs in memory -/
def RegsAt (w : World) (b o rl : Nat) (log : Nat → Int) (sec : Nat → Bool) : Prop :=
  ∀ i, i < rl → w.cell? ⟨b, o + i * 2, none⟩ = some (.int .i64 (log i)) ∧ w.cell? ⟨b, o + i * 2 + 1, none⟩ = some (.bool (sec i))
def CodeAt (w : World) (b o cl : Nat) (ins : Nat → Ins) : Prop :=
  ∀ i, i < cl → w.cell? ⟨b, o + i * 5, none⟩ = some (.int .i64 (ins i).op) ∧ w.cell? ⟨b, o + i * 5 + 1, none⟩ = some (.int .i64 (ins i).a) ∧ w.cell? ⟨b, o + i * 5 + 2, none⟩ = some (.int .i64 (ins i).b) ∧
    w.cell? ⟨b, o + i * 5 + 3, none⟩ = some (.int .i64 (ins i).c) ∧ w.cell? ⟨b, o + i * 5 + 4, none⟩ = some (.int .i64 (ins i).n)

theorem RegsAt.more {w w' : World} (m : More w w') {b o rl : Nat} {log : Nat → Int} {sec : Nat → Bool} (h : RegsAt w b o rl log sec) : RegsAt w' b o rl log sec :=
  fun i hi => ⟨m.cell (h i hi).1, m.cell (h i hi).2⟩
theorem CodeAt.more {w w' : World} (m : More w w') {b o cl : Nat} {ins : Nat → Ins} (h : CodeAt w b o cl ins) : CodeAt w' b o cl ins :=
  fun i hi => ⟨m.cell (h i hi).1, m.cell (h i hi).2.1, m.cell (h i hi).2.2.1, m.cell (h i hi).2.2.2.1, m.cell (h i hi).2.2.2.2⟩

/-- Where a program lies: the two slices' addresses (also as numbers, where there is an element) and capacities. -/
structure Loc where
  ra : Option Addr
  rb : Nat
  ro : Nat
  rc : Nat
  ca : Option Addr
  cb : Nat
  co : Nat
  cc : Nat

structure PIn (w : World) (p : Prg) (l : Loc) : Prop where
  hr : 0 < p.rl → l.ra = some ⟨l.rb, l.ro, none⟩
  hc : 0 < p.cl → l.ca = some ⟨l.cb, l.co, none⟩
  regs : RegsAt w l.rb l.ro p.rl p.log p.sec
  code : CodeAt w l.cb l.co p.cl p.ins

theorem PIn.more {w w' : World} (m : More w w') {p : Prg} {l : Loc} (h : PIn w p l) : PIn w' p l := ⟨h.hr, h.hc, h.regs.more m, h.code.more m⟩

def Blw (n e : Int) : Prop := 0 ≤ n ∧ n < e
def Btw (a b c : Int) : Prop := a ≤ c ∧ c ≤ b

/-- How many words a region has. -/
def wordsI (l : Int) : Int := 2 ^ l.toNat

theorem two_pow_le {k : Nat} (h : k ≤ 6) : (1 : Int) ≤ 2 ^ k ∧ (2 : Int) ^ k ≤ 64 := by
  have : k = 0 ∨ k = 1 ∨ k = 2 ∨ k = 3 ∨ k = 4 ∨ k = 5 ∨ k = 6 := by omega
  rcases this with rfl | rfl | rfl | rfl | rfl | rfl | rfl <;> decide

theorem Says.is_yes {P : Prop} (h : P) {w : World} {e : Ending} {w' : World} (s : Says P w e w') : e = .returned (.bool true) ∧ More w w' := by
  obtain ⟨r, rfl, hr, m⟩ := s
  cases r
  · simpa using hr.2 h
  · exact ⟨rfl, m⟩
theorem Says.is_no {P : Prop} (h : ¬ P) {w : World} {e : Ending} {w' : World} (s : Says P w e w') : e = .returned (.bool false) ∧ More w w' := by
  obtain ⟨r, rfl, hr, m⟩ := s
  cases r
  · exact ⟨rfl, m⟩
  · exact absurd (hr.1 rfl) h

/-- A memory: lists, by where they lie and how long they are. -/
def ListsAt (w : World) (b o ml : Nat) (A : Nat → Option Addr) (L C : Nat → Nat) : Prop := ∀ i, i < ml → w.cell? ⟨b, o + i, none⟩ = some (.slice (A i) (L i) (C i))
theorem ListsAt.more {w w' : World} (m : More w w') {b o ml : Nat} {A : Nat → Option Addr} {L C : Nat → Nat} (h : ListsAt w b o ml A L C) : ListsAt w' b o ml A L C := fun i hi => m.cell (h i hi)

/-- B2. -/
def FitsOk (rl : Nat) (log : Nat → Int) (ml : Nat) (L : Nat → Nat) : Prop := RegionsOk rl log ∧ ml = rl ∧ ∀ i, i < rl → (L i : Int) = wordsI (log i)

end Go.Proofs.Ytedbfjjjfmmffab

/-
  What a call of known.Op, Join, Less, Of and Has does, for whatever is known.
-/
namespace Go.Proofs.Ytedbfjjjfmmffab
open Go.RowKit

/-- A Known, as a value. -/
abbrev kn (a : Int) (s : Bool) : Value := .agg #[.int .i64 a, .bool s]

/-- Two boxes, one behind the other, each with a Known. -/
structure Two (n : Nat) (a : Int) (sa : Bool) (b : Int) (sb : Bool) (w : World) : Prop where
  a0 : w.cell? ⟨n, 0, none⟩ = some (.int .i64 a)
  a1 : w.cell? ⟨n, 1, none⟩ = some (.bool sa)
  b0 : w.cell? ⟨n + 1, 0, none⟩ = some (.int .i64 b)
  b1 : w.cell? ⟨n + 1, 1, none⟩ = some (.bool sb)

theorem less_calls (a b : Int) (sa sb : Bool) (w : World) :
    Calls Try.prog 7 #[kn a sa, kn b sb] w fun e w' => e = .returned (kn (min (bnd a) (bnd b)) sa) ∧ More w w' := by
  obtain ⟨x, hx⟩ : ∃ x, bnd a = x := ⟨_, rfl⟩
  obtain ⟨y, hy⟩ : ∃ x, bnd b = x := ⟨_, rfl⟩
  have c1 : ∀ w : World, Calls Try.prog 20 #[.int .i64 a] w fun e w' => e = .returned (.int .i64 x) ∧ w' = w := fun w => hx ▸ bounded_calls a w
  have c2 : ∀ w : World, Calls Try.prog 20 #[.int .i64 b] w fun e w' => e = .returned (.int .i64 y) ∧ w' = w := fun w => hy ▸ bounded_calls b w
  rw [hx, hy]
  clear hx hy
  unfold kn
  obtain ⟨S, HS⟩ : ∃ S : World → Prop, Hid (∀ w', S w' ↔ Two w.heap.size a sa b sb w') := ⟨_, fun _ => Iff.rfl⟩
  have k0 : ∀ i : { w' // S w' }, i.val.cell? ⟨w.heap.size, 0, none⟩ = some (.int .i64 a) := fun i => ((HS.out _).1 i.property).a0
  have k1 : ∀ i : { w' // S w' }, i.val.cell? ⟨w.heap.size, 1, none⟩ = some (.bool sa) := fun i => ((HS.out _).1 i.property).a1
  have k2 : ∀ i : { w' // S w' }, i.val.cell? ⟨w.heap.size + 1, 0, none⟩ = some (.int .i64 b) := fun i => ((HS.out _).1 i.property).b0
  have k3 : ∀ i : { w' // S w' }, i.val.cell? ⟨w.heap.size + 1, 1, none⟩ = some (.bool sb) := fun i => ((HS.out _).1 i.property).b1
  obtain ⟨W, HW⟩ : ∃ W : World, Hid (W = ((w.alloc (.cells #[.int .i64 a, .bool sa] 23)).alloc (.cells #[.int .i64 b, .bool sb] 23)).alloc (.cells #[.int .i64 0, .bool false] 23)) := ⟨_, rfl⟩
  have HS0 : S W.drew := (HS.out _).2 (by rw [HW.out]; constructor <;> go_simp)
  have hne : Nonempty { w' // S w' } := ⟨⟨_, HS0⟩⟩
  go_enter Try.func7, Try.ntmps7
  go_wp2_with (fail)
  rw [← HW.out]
  refine wp_region_ord (S := S) [(0, true), (1, true), (3, true), (4, true), (7, true), (8, true), (2, false), (5, false), (6, false), (9, true), (10, false)] (by kernel_rfl) (by kernel_rfl) (by kernel_rfl) HS0 ?_
  iterate 6 (refine wpOrd_take rfl (by kernel_rfl) (fun K hK => ?_); go_simp; refine hK _ _ ?_; clear hK K)
  refine wpOrd_busy rfl (by kernel_rfl) (fun K hK => ?_); go_simp
  refine (c1 _).mono ?_
  rintro e w1 ⟨rfl, rfl⟩
  go_simp
  refine hK _ _ HS0 ?_; clear hK K
  refine wpOrd_busy rfl (by kernel_rfl) (fun K hK => ?_); go_simp
  refine (c2 _).mono ?_
  rintro e w1 ⟨rfl, rfl⟩
  go_simp
  refine hK _ _ HS0 ?_; clear hK K
  refine wpOrd_busy rfl (by kernel_rfl) (fun K hK => ?_); go_simp
  refine hK _ _ HS0 ?_; clear hK K
  (refine wpOrd_take rfl (by kernel_rfl) (fun K hK => ?_); go_simp; refine hK _ _ ?_; clear hK K)
  rw [HW.out]
  refine wpOrd_busy rfl (by kernel_rfl) (fun K hK => ?_); go_simp
  refine hK _ _ ((HS.out _).2 (by constructor <;> go_simp)) ?_; clear hK K
  refine wpOrd_done ?_
  clear k0 k1 k2 k3 hne HS0
  go_wp2
  exact bodyPost_ret (by simp [results, Try.results7, go_sem]) rfl ⟨rfl, ((((More.refl _).alloc _ _).alloc _ _).alloc _ _).drew⟩

theorem join_true (a b : Int) (sb : Bool) (w : World) :
    Calls Try.prog 6 #[kn a true, kn b sb] w fun e w' => e = .returned (kn (max (bnd a) (bnd b)) true) ∧ More w w' := by
  obtain ⟨x, hx⟩ : ∃ x, bnd a = x := ⟨_, rfl⟩
  obtain ⟨y, hy⟩ : ∃ x, bnd b = x := ⟨_, rfl⟩
  have c1 : ∀ w : World, Calls Try.prog 20 #[.int .i64 a] w fun e w' => e = .returned (.int .i64 x) ∧ w' = w := fun w => hx ▸ bounded_calls a w
  have c2 : ∀ w : World, Calls Try.prog 20 #[.int .i64 b] w fun e w' => e = .returned (.int .i64 y) ∧ w' = w := fun w => hy ▸ bounded_calls b w
  rw [hx, hy]
  clear hx hy
  unfold kn
  obtain ⟨S, HS⟩ : ∃ S : World → Prop, Hid (∀ w', S w' ↔ Two w.heap.size a true b sb w') := ⟨_, fun _ => Iff.rfl⟩
  have k0 : ∀ i : { w' // S w' }, i.val.cell? ⟨w.heap.size, 0, none⟩ = some (.int .i64 a) := fun i => ((HS.out _).1 i.property).a0
  have k1 : ∀ i : { w' // S w' }, i.val.cell? ⟨w.heap.size, 1, none⟩ = some (.bool true) := fun i => ((HS.out _).1 i.property).a1
  have k2 : ∀ i : { w' // S w' }, i.val.cell? ⟨w.heap.size + 1, 0, none⟩ = some (.int .i64 b) := fun i => ((HS.out _).1 i.property).b0
  have k3 : ∀ i : { w' // S w' }, i.val.cell? ⟨w.heap.size + 1, 1, none⟩ = some (.bool sb) := fun i => ((HS.out _).1 i.property).b1
  obtain ⟨W, HW⟩ : ∃ W : World, Hid (W = ((w.alloc (.cells #[.int .i64 a, .bool true] 23)).alloc (.cells #[.int .i64 b, .bool sb] 23)).alloc (.cells #[.int .i64 0, .bool false] 23)) := ⟨_, rfl⟩
  have HS0 : S W.drew := (HS.out _).2 (by rw [HW.out]; constructor <;> go_simp)
  have hne : Nonempty { w' // S w' } := ⟨⟨_, HS0⟩⟩
  go_enter Try.func6, Try.ntmps6
  go_wp2_with (fail)
  rw [← HW.out]
  refine wp_region_ord (S := S) [(0, true), (1, true), (3, true), (4, true), (7, true), (8, true), (2, false), (5, false), (9, true), (10, true), (11, true), (12, true), (6, false), (13, true), (14, false)] (by kernel_rfl) (by kernel_rfl) (by kernel_rfl) HS0 ?_
  iterate 6 (refine wpOrd_take rfl (by kernel_rfl) (fun K hK => ?_); go_simp; refine hK _ _ ?_; clear hK K)
  refine wpOrd_busy rfl (by kernel_rfl) (fun K hK => ?_); go_simp
  refine (c1 _).mono ?_
  rintro e w1 ⟨rfl, rfl⟩
  go_simp
  refine hK _ _ HS0 ?_; clear hK K
  refine wpOrd_busy rfl (by kernel_rfl) (fun K hK => ?_); go_simp
  refine (c2 _).mono ?_
  rintro e w1 ⟨rfl, rfl⟩
  go_simp
  refine hK _ _ HS0 ?_; clear hK K
  (refine wpOrd_take rfl (by kernel_rfl) (fun K hK => ?_); go_simp; refine hK _ _ ?_; clear hK K)
  iterate 2 (refine wpOrd_skip rfl HS0 (by kernel_rfl) (by kernel_rfl) ?_)
  refine wpOrd_pickT rfl rfl (by kernel_rfl) rfl (fun K hK => ?_); go_simp; refine hK _ _ ?_; clear hK K
  refine wpOrd_busy rfl (by kernel_rfl) (fun K hK => ?_); go_simp
  refine hK _ _ HS0 ?_; clear hK K
  (refine wpOrd_take rfl (by kernel_rfl) (fun K hK => ?_); go_simp; refine hK _ _ ?_; clear hK K)
  rw [HW.out]
  refine wpOrd_busy rfl (by kernel_rfl) (fun K hK => ?_); go_simp
  refine hK _ _ ((HS.out _).2 (by constructor <;> go_simp)) ?_; clear hK K
  refine wpOrd_done ?_
  clear k0 k1 k2 k3 hne HS0
  go_wp2
  exact bodyPost_ret (by simp [results, Try.results6, go_sem]) rfl ⟨rfl, ((((More.refl _).alloc _ _).alloc _ _).alloc _ _).drew⟩

theorem join_false (a b : Int) (sb : Bool) (w : World) :
    Calls Try.prog 6 #[kn a false, kn b sb] w fun e w' => e = .returned (kn (max (bnd a) (bnd b)) sb) ∧ More w w' := by
  obtain ⟨x, hx⟩ : ∃ x, bnd a = x := ⟨_, rfl⟩
  obtain ⟨y, hy⟩ : ∃ x, bnd b = x := ⟨_, rfl⟩
  have c1 : ∀ w : World, Calls Try.prog 20 #[.int .i64 a] w fun e w' => e = .returned (.int .i64 x) ∧ w' = w := fun w => hx ▸ bounded_calls a w
  have c2 : ∀ w : World, Calls Try.prog 20 #[.int .i64 b] w fun e w' => e = .returned (.int .i64 y) ∧ w' = w := fun w => hy ▸ bounded_calls b w
  rw [hx, hy]
  clear hx hy
  unfold kn
  obtain ⟨S, HS⟩ : ∃ S : World → Prop, Hid (∀ w', S w' ↔ Two w.heap.size a false b sb w') := ⟨_, fun _ => Iff.rfl⟩
  have k0 : ∀ i : { w' // S w' }, i.val.cell? ⟨w.heap.size, 0, none⟩ = some (.int .i64 a) := fun i => ((HS.out _).1 i.property).a0
  have k1 : ∀ i : { w' // S w' }, i.val.cell? ⟨w.heap.size, 1, none⟩ = some (.bool false) := fun i => ((HS.out _).1 i.property).a1
  have k2 : ∀ i : { w' // S w' }, i.val.cell? ⟨w.heap.size + 1, 0, none⟩ = some (.int .i64 b) := fun i => ((HS.out _).1 i.property).b0
  have k3 : ∀ i : { w' // S w' }, i.val.cell? ⟨w.heap.size + 1, 1, none⟩ = some (.bool sb) := fun i => ((HS.out _).1 i.property).b1
  obtain ⟨W, HW⟩ : ∃ W : World, Hid (W = ((w.alloc (.cells #[.int .i64 a, .bool false] 23)).alloc (.cells #[.int .i64 b, .bool sb] 23)).alloc (.cells #[.int .i64 0, .bool false] 23)) := ⟨_, rfl⟩
  have HS0 : S W.drew := (HS.out _).2 (by rw [HW.out]; constructor <;> go_simp)
  have hne : Nonempty { w' // S w' } := ⟨⟨_, HS0⟩⟩
  go_enter Try.func6, Try.ntmps6
  go_wp2_with (fail)
  rw [← HW.out]
  refine wp_region_ord (S := S) [(0, true), (1, true), (3, true), (4, true), (7, true), (8, true), (2, false), (5, false), (9, true), (10, true), (11, true), (12, true), (6, false), (13, true), (14, false)] (by kernel_rfl) (by kernel_rfl) (by kernel_rfl) HS0 ?_
  iterate 6 (refine wpOrd_take rfl (by kernel_rfl) (fun K hK => ?_); go_simp; refine hK _ _ ?_; clear hK K)
  refine wpOrd_busy rfl (by kernel_rfl) (fun K hK => ?_); go_simp
  refine (c1 _).mono ?_
  rintro e w1 ⟨rfl, rfl⟩
  go_simp
  refine hK _ _ HS0 ?_; clear hK K
  refine wpOrd_busy rfl (by kernel_rfl) (fun K hK => ?_); go_simp
  refine (c2 _).mono ?_
  rintro e w1 ⟨rfl, rfl⟩
  go_simp
  refine hK _ _ HS0 ?_; clear hK K
  iterate 3 (refine wpOrd_take rfl (by kernel_rfl) (fun K hK => ?_); go_simp; refine hK _ _ ?_; clear hK K)
  refine wpOrd_pickF rfl rfl (by kernel_rfl) rfl (fun K hK => ?_); go_simp; refine hK _ _ ?_; clear hK K
  refine wpOrd_busy rfl (by kernel_rfl) (fun K hK => ?_); go_simp
  refine hK _ _ HS0 ?_; clear hK K
  (refine wpOrd_take rfl (by kernel_rfl) (fun K hK => ?_); go_simp; refine hK _ _ ?_; clear hK K)
  rw [HW.out]
  refine wpOrd_busy rfl (by kernel_rfl) (fun K hK => ?_); go_simp
  refine hK _ _ ((HS.out _).2 (by constructor <;> go_simp)) ?_; clear hK K
  refine wpOrd_done ?_
  clear k0 k1 k2 k3 hne HS0
  go_wp2
  exact bodyPost_ret (by simp [results, Try.results6, go_sem]) rfl ⟨rfl, ((((More.refl _).alloc _ _).alloc _ _).alloc _ _).drew⟩

theorem join_calls (a b : Int) (sa sb : Bool) (w : World) :
    Calls Try.prog 6 #[kn a sa, kn b sb] w fun e w' => e = .returned (kn (max (bnd a) (bnd b)) (sa || sb)) ∧ More w w' := by
  cases sa with
  | true => exact join_true a b sb w
  | false => exact join_false a b sb w

theorem kof_calls (n : Int) (w : World) :
    Calls Try.prog 8 #[.int .i64 n] w fun e w' => e = .returned (kn (fitI n) false) ∧ More w w' := by
  obtain ⟨x, hx⟩ : ∃ x, fitI n = x := ⟨_, rfl⟩
  have c1 : ∀ w : World, Calls Try.prog 21 #[.int .i64 n] w fun e w' => e = .returned (.int .i64 x) ∧ w' = w := fun w => hx ▸ fitting_calls n w
  rw [hx]
  clear hx
  unfold kn
  go_enter Try.func8, Try.ntmps8
  go_wp2_with (fail)
  refine (c1 _).mono ?_
  rintro e w1 ⟨rfl, rfl⟩
  go_wp2
  exact bodyPost_ret (by simp [results, Try.results8, go_sem]) rfl ⟨rfl, (More.refl _).alloc _ _⟩

end Go.Proofs.Ytedbfjjjfmmffab

/-
  A statement whose order of evaluation is left open, step by step: as Ord, but where two operations that call or make memory may come up, each is gone into. No Go text in sight.
-/
namespace Go.Proofs.Ytedbfjjjfmmffab
open Go

section
variable {P : Program} {ops : Array Oper} {Q : Exit → Act → World → Prop} {S : World → Prop}

theorem op_of_busy {i : Nat} {o : Oper} {a : Act} {w : World} {K K' : Act → World → Prop} (ho : ops[i]? = some o) (h : OrdBusy P ops Q o a w K) (hK : ∀ a w, K a w → K' a w) : wpOp P ops Q i K' a w := by
  unfold OrdBusy at h
  unfold wpOp
  rw [ho]
  show if Region.wanted o (yielded ops a.tmps) = true then _ else _
  by_cases hw : Region.wanted o (yielded ops a.tmps) = true
  · rw [if_pos hw] at h ⊢
    exact .inl (Oper.wp_mono hK h)
  · rw [if_neg hw] at h ⊢
    exact hK _ _ h

/-- What is left of a region, in whatever order: as a structure, so that nothing looks into it unasked. -/
structure OrdL (P : Program) (ops : Array Oper) (Q : Exit → Act → World → Prop) (S : World → Prop) (n : Nat) (listed : Array Bool) (a : Act) (w : World) : Prop where
  out : wpAnyH P .any ops Q S n listed a w

/-- A region that asks the tape. -/
theorem wp_region_left {id : Nat} {a : Act} {w : World} (hm : P.follows .mixedOrders = true) (hS : S w.drew)
    (h : OrdL P ops (NoPanic Q) S ops.size (Array.replicate ops.size false) a w.drew) : (Code.region id ops true).wp P Q a w :=
  wp_region_noPanic (wp_region_held_drew (S := S) hm hS (fun _ => h.out))

/-- One that reads alone is taken first. -/
theorem ol_take {ls : List Oper} (i : Nat) {o : Oper} {n : Nat} {listed : Array Bool} {a : Act} {w : World} (ho' : nth ls i = some o)
    (hB : (Region.noSelect ls.toArray && (Region.free .any ls.toArray listed i && (Region.ready .any ls.toArray listed).contains i)) = true) (hS : S w) (hw : Region.wanted o (yielded ls.toArray a.tmps) = true)
    (h : ∀ K : Act → World → Prop, (∀ a w, OrdL P ls.toArray (NoPanic Q) S n (listed.setIfInBounds i true) a w → K a w) → ∃ v, (∀ i : { w' // S w' }, (execOp a.eval o).run P i.val = .ok (.value v) i.val) ∧ K (a.put o.dst v) w) :
    OrdL P ls.toArray (NoPanic Q) S (n + 1) listed a w := by
  simp only [Bool.and_eq_true] at hB
  obtain ⟨v, hv, hk⟩ := h (fun a w => wpAnyH P .any ls.toArray (NoPanic Q) S n (listed.setIfInBounds i true) a w) (fun _ _ h => h.out)
  exact ⟨wpAnyH_take (nth_arr ho') hB.1 hB.2.1 hB.2.2 (fun _ _ _ h => h) (.inl ⟨hw, fun w' hw' => hv ⟨w', hw'⟩⟩) hS hk⟩

/-- What is asked of one that comes up and calls or makes memory. -/
structure OlStep (P : Program) (ops : Array Oper) (Q : Exit → Act → World → Prop) (S : World → Prop) (i n : Nat) (listed : Array Bool) (a : Act) (w : World) : Prop where
  out : wpOp P ops Q i (fun a' w' => S w' ∧ wpAnyH P .any ops Q S n (listed.setIfInBounds i true) a' w') a w

theorem ol_step {ls : List Oper} {i : Nat} {o : Oper} {n : Nat} {listed : Array Bool} {a : Act} {w : World} (ho' : nth ls i = some o) (hw : Region.wanted o (yielded ls.toArray a.tmps) = true)
    (h : ∀ K : Act → World → Prop, (∀ a w, S w → OrdL P ls.toArray Q S n (listed.setIfInBounds i true) a w → K a w) → Oper.wp P o a w K Q) : OlStep P ls.toArray Q S i n listed a w := by
  refine ⟨op_of_busy (nth_arr ho') (K := fun a' w' => S w' ∧ wpAnyH P .any ls.toArray Q S n (listed.setIfInBounds i true) a' w') ?_ (fun _ _ h => h)⟩
  unfold OrdBusy
  rw [if_pos hw]
  exact h _ (fun _ _ hs h => ⟨hs, h.out⟩)

/-- One alone may come up. -/
theorem ol_one (i : Nat) {n : Nat} {listed : Array Bool} {a : Act} {w : World} (hB : (Region.ready .any ops listed == [i]) = true) (h : OlStep P ops Q S i n listed a w) : OrdL P ops Q S (n + 1) listed a w := by
  refine ⟨wpAnyH_all (by simpa using hB) (by simp) (fun j hj => ?_)⟩
  obtain rfl : j = i := by simpa using hj
  exact h.out
/-- Two may come up. -/
theorem ol_two (i j : Nat) {n : Nat} {listed : Array Bool} {a : Act} {w : World} (hB : (Region.ready .any ops listed == [i, j]) = true) (h : OlStep P ops Q S i n listed a w) (k : OlStep P ops Q S j n listed a w) : OrdL P ops Q S (n + 1) listed a w := by
  refine ⟨wpAnyH_all (by simpa using hB) (by simp) (fun x hx => ?_)⟩
  have hx' : x = i ∨ x = j := by simpa using hx
  rcases hx' with rfl | rfl
  · exact h.out
  · exact k.out
theorem ol_done {n : Nat} {listed : Array Bool} {a : Act} {w : World} (hB : (Region.ready .any ops listed == []) = true) (h : Q .normal a w) : OrdL P ops (NoPanic Q) S n listed a w :=
  ⟨wpAnyH_done (by simpa using hB) (show NoPanic Q .normal a w from h) n⟩

end
end Go.Proofs.Ytedbfjjjfmmffab
