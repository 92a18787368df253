/-
  The texts Plain, KnPlain, Mem, CkPlain, CkRound, CvPlain, KnLen, Ord, KnDev, CkMem, Shown, Sem, CvMem, CvSum, one behind the other, with what is used of them.
-/
import Derived.RowKit
import Derived.WalkKit
import Derived.Laws.BitsAllLaws
import Derived.Laws.MathBits
import Derived.Deep.WholeRow
import Derived.Test.YtmpafeoileonjaaProg
import Derived.Lib.Strings
import Derived.Lib.Slices
import Derived.Lib.Small
import Derived.Lib.Walk
import Derived.Lib.BitFns
import Derived.Deep.RegionHeld3
import Derived.Deep.AppendLies
import Derived.OwnWalk
import Derived.Laws.OwnMore
import Derived.Laws.IdiomCopy
namespace Go.Proofs.Ytmpafeoileonjaa
section
open Go.RowKit
/-- A number of 64 bits, taken from 0 on. -/
def toU (a : Int) : Nat := (a % 18446744073709551616).toNat

theorem toU_cast (a : Int) : ((toU a : Nat) : Int) = a % 18446744073709551616 := by unfold toU; omega
theorem toU_lt (a : Int) : toU a < 18446744073709551616 := by unfold toU; omega

/-- What an operation makes of two numbers. -/
def opI (op a b : Int) : Int :=
 if op = 1 then wrap64 (a + b)
 else if op = 2 then wrap64 (a - b)
 else if op = 3 then wrap64 (a * b)
 else if op = 4 then wrap64 ((toU a &&& toU b : Nat) : Int)
 else if op = 5 then wrap64 ((toU a ||| toU b : Nat) : Int)
 else if op = 6 then wrap64 ((toU a ^^^ toU b : Nat) : Int)
 else if op = 7 then wrap64 ((toU a * 2 ^ (toU b % 64) : Nat) : Int)
 else if op = 8 then wrap64 ((toU a / 2 ^ (toU b % 64) : Nat) : Int)
 else if op = 9 then wrap64 ((toU a / toU b : Nat) : Int)
 else if op = 10 then wrap64 ((toU a % toU b : Nat) : Int)
 else 0

/-- Whether two numbers are as a condition says. -/
def holdsI (c a b : Int) : Bool :=
 if c = 1 then toU a == toU b
 else if c = 2 then toU a != toU b
 else if c = 3 then decide (toU a < toU b)
 else if c = 4 then decide (toU b ≤ toU a)
 else false

theorem uwrap (a : Int) : IntKind.u64.wrap a = ((toU a : Nat) : Int) := by rw [IntKind.wrap_u64, toU_cast]

theorem opI_1 (a b : Int) : opI 1 a b = wrap64 (a + b) := by simp [opI]
theorem opI_2 (a b : Int) : opI 2 a b = wrap64 (a - b) := by simp [opI]
theorem opI_3 (a b : Int) : opI 3 a b = wrap64 (a * b) := by simp [opI]
theorem opI_4 (a b : Int) : opI 4 a b = wrap64 ((toU a &&& toU b : Nat) : Int) := by simp [opI]
theorem opI_5 (a b : Int) : opI 5 a b = wrap64 ((toU a ||| toU b : Nat) : Int) := by simp [opI]
theorem opI_6 (a b : Int) : opI 6 a b = wrap64 ((toU a ^^^ toU b : Nat) : Int) := by simp [opI]
theorem opI_7 (a b : Int) : opI 7 a b = wrap64 ((toU a * 2 ^ (toU b % 64) : Nat) : Int) := by simp [opI]
theorem opI_8 (a b : Int) : opI 8 a b = wrap64 ((toU a / 2 ^ (toU b % 64) : Nat) : Int) := by simp [opI]
theorem opI_9 (a b : Int) : opI 9 a b = wrap64 ((toU a / toU b : Nat) : Int) := by simp [opI]
theorem opI_10 (a b : Int) : opI 10 a b = wrap64 ((toU a % toU b : Nat) : Int) := by simp [opI]
/-- Bits as they are read: from 0 to 16, or 17. -/
def bnd (k : Int) : Int := if k < 0 ∨ 16 < k then 17 else k

/-- Does a number fit Bits? -/
def hasI (k n : Int) : Bool := decide (bnd k = 17 ∨ (0 ≤ n ∧ n < 2 ^ (bnd k).toNat))

/-- The least Bits that a number fits. -/
def fitI (n : Int) : Int := bnd (bitLen (toU n) : Int)

/-- The Bits of what an operation makes, of Bits from 0 to 17. -/
def opB (op a b : Int) : Int :=
 if op = 1 then (if a = 0 ∨ b = 0 then max a b else bnd (max a b + 1))
 else if op = 3 then (if a = 0 ∨ b = 0 then 0 else bnd (a + b))
 else if op = 4 then min a b
 else if op = 5 ∨ op = 6 then max a b
 else if op = 8 ∨ op = 9 ∨ op = 10 then a
 else 17

theorem bnd_range (k : Int) : 0 ≤ bnd k ∧ bnd k ≤ 17 := by unfold bnd; split <;> omega
theorem bnd_id {k : Int} (h0 : 0 ≤ k) (h1 : k ≤ 17) : bnd k = k := by unfold bnd; split <;> omega
theorem bnd_bnd (k : Int) : bnd (bnd k) = bnd k := bnd_id (bnd_range k).1 (bnd_range k).2
theorem bnd_out {k : Int} (h : k < 0 ∨ 16 < k) : bnd k = 17 := by unfold bnd; rw [if_pos h]
theorem bnd_in {k : Int} (h0 : 0 ≤ k) (h1 : k ≤ 16) : bnd k = k := bnd_id h0 (by omega)

theorem bitLen_le (u b : Nat) : bitLen u ≤ b ↔ u < 2 ^ b := by
 have ⟨h1, h2⟩ := bitLen_spec u
 constructor
 ·intro h; exact Nat.lt_of_lt_of_le h1 (Nat.pow_le_pow_right (by decide) h)
 ·intro h
  by_cases h0 : u = 0
  ·subst h0; simp [bitLen]
  ·have h3 := h2 h0
   have h4 : 2 ^ (bitLen u - 1) < 2 ^ b := Nat.lt_of_le_of_lt h3 h
   have h5 := (Nat.pow_lt_pow_iff_right (a := 2) (by decide)).1 h4
   omega

theorem pow_le16 {b : Nat} (h : b ≤ 16) : 2 ^ b ≤ 65536 := Nat.pow_le_pow_right (n := 2) (by decide) h

theorem toU_pos {n : Int} (h0 : 0 ≤ n) (h1 : n ≤ 9223372036854775807) : ((toU n : Nat) : Int) = n := by rw [toU_cast]; omega
theorem toU_neg {n : Int} (h0 : n < 0) (h1 : -9223372036854775808 ≤ n) : 9223372036854775808 ≤ toU n := by unfold toU; omega

/-- A number fits some Bits up to 16 just if the least that it fits are not more. -/
theorem fits_iff {n : Int} (h0 : -9223372036854775808 ≤ n) (h1 : n ≤ 9223372036854775807) {b : Nat} (hb : b ≤ 16) :
  fitI n ≤ (b : Int) ↔ (0 ≤ n ∧ n < 2 ^ b) := by
 have hp := pow_le16 hb
 have hl := bitLen_le (toU n) b
 have hf : fitI n ≤ (b : Int) ↔ bitLen (toU n) ≤ b := by unfold fitI bnd; split <;> omega
 rw [hf, hl]
 have hc : ((2 ^ b : Nat) : Int) = 2 ^ b := by push_cast; rfl
 rw [← hc]
 by_cases hn : n < 0
 ·have := toU_neg hn h0; omega
 ·have := toU_pos (n := n) (by omega) h1; omega

theorem hasI_fit {n : Int} (h0 : -9223372036854775808 ≤ n) (h1 : n ≤ 9223372036854775807) (k : Int) :
  hasI k n = decide (fitI n ≤ bnd k) := by
 unfold hasI
 congr 1
 apply propext
 have hr := bnd_range k
 have hf : fitI n ≤ 17 := (bnd_range _).2
 by_cases h : bnd k = 17
 ·rw [h]; simp [hf]
 ·have h2 := fits_iff h0 h1 (b := (bnd k).toNat) (by omega)
  rw [show (((bnd k).toNat : Nat) : Int) = bnd k by omega] at h2
  rw [h2]; simp [h]

theorem fit_range (n : Int) : 0 ≤ fitI n ∧ fitI n ≤ 17 := bnd_range _

theorem hasI_own {n : Int} (h0 : -9223372036854775808 ≤ n) (h1 : n ≤ 9223372036854775807) : hasI (fitI n) n = true := by
 rw [hasI_fit h0 h1, decide_eq_true_eq, bnd_id (fit_range n).1 (fit_range n).2]; exact Int.le_refl _

theorem hasI_mono {n k k' : Int} (h0 : -9223372036854775808 ≤ n) (h1 : n ≤ 9223372036854775807) (h : hasI k n = true) (hk : bnd k ≤ bnd k') : hasI k' n = true := by
 rw [hasI_fit h0 h1, decide_eq_true_eq] at *; omega

theorem hasI_any {k n : Int} (h : bnd k = 17) : hasI k n = true := by unfold hasI; simp [h]
theorem hasI_some {k n : Int} (hk : bnd k ≤ 16) (h : hasI k n = true) : 0 ≤ n ∧ n < 2 ^ (bnd k).toNat ∧ n < 65536 := by
 unfold hasI at h
 rw [decide_eq_true_eq] at h
 have hr := bnd_range k
 have hp := pow_le16 (b := (bnd k).toNat) (by omega)
 have hc : ((2 ^ (bnd k).toNat : Nat) : Int) = 2 ^ (bnd k).toNat := by push_cast; rfl
 rw [← hc] at h ⊢
 omega
theorem hasI_mk {k n : Int} (h0 : 0 ≤ n) (h1 : n < 2 ^ (bnd k).toNat) : hasI k n = true := by
 unfold hasI; rw [decide_eq_true_eq]; exact .inr ⟨h0, h1⟩

/-- A number that is not greater than another one, from 0 on, fits what that one fits. -/
theorem hasI_less {a b n m : Int} (n0 : -9223372036854775808 ≤ n) (n1 : n ≤ 9223372036854775807) (m0 : -9223372036854775808 ≤ m) (m1 : m ≤ 9223372036854775807)
  (ha : hasI a n = true) (hb : hasI b m = true) (h : toU n ≤ toU m) : hasI (min (bnd a) (bnd b)) n = true := by
 have ra := bnd_range a
 have rb := bnd_range b
 by_cases h1 : bnd a ≤ bnd b
 ·refine hasI_mono n0 n1 ha ?_
  rw [show min (bnd a) (bnd b) = bnd a by omega, bnd_bnd]; exact Int.le_refl _
 ·have h2 : bnd b ≤ 16 := by omega
  have ⟨m2, m3, m4⟩ := hasI_some h2 hb
  rw [show min (bnd a) (bnd b) = bnd b by omega]
  have um := toU_pos m2 m1
  have hn : 0 ≤ n := by
   by_cases h3 : n < 0
   ·have := toU_neg h3 n0; omega
   ·omega
  have un := toU_pos hn n1
  refine hasI_mk hn ?_
  rw [bnd_bnd]; omega

theorem wrap_small {n : Int} (h0 : 0 ≤ n) (h1 : n ≤ 9223372036854775807) : wrap64 n = n := by unfold wrap64; omega

theorem pow_castI (k : Nat) : ((2 ^ k : Nat) : Int) = 2 ^ k := by push_cast; rfl

/-- What is known is so: of each operation. -/
theorem known_op (op : Int) {a b n m : Int} (n0 : -9223372036854775808 ≤ n) (n1 : n ≤ 9223372036854775807) (m0 : -9223372036854775808 ≤ m) (m1 : m ≤ 9223372036854775807)
  (ha : hasI a n = true) (hb : hasI b m = true) : hasI (opB op (bnd a) (bnd b)) (opI op n m) = true := by
 have ra := bnd_range a
 have rb := bnd_range b
 by_cases hres : bnd (opB op (bnd a) (bnd b)) = 17
 ·exact hasI_any hres
 have rr := bnd_range (opB op (bnd a) (bnd b))
 -- what is known of the one, if anything is
 have ka : bnd a ≤ 16 → 0 ≤ n ∧ n < ((2 ^ (bnd a).toNat : Nat) : Int) ∧ n < 65536 := fun h => by rw [pow_castI]; exact hasI_some h ha
 have kb : bnd b ≤ 16 → 0 ≤ m ∧ m < ((2 ^ (bnd b).toNat : Nat) : Int) ∧ m < 65536 := fun h => by rw [pow_castI]; exact hasI_some h hb
 have mk : ∀ (k : Nat) (r : Int), opB op (bnd a) (bnd b) = (k : Int) → k ≤ 16 → opI op n m = r → 0 ≤ r → r < ((2 ^ k : Nat) : Int) → hasI (opB op (bnd a) (bnd b)) (opI op n m) = true := by
  intro k r e hk er h0 h1
  rw [e, er]
  refine hasI_mk h0 ?_
  rw [bnd_in (by omega) (by omega), Int.toNat_natCast, ← pow_castI]; exact h1
 generalize hA : bnd a = A at *
 generalize hB : bnd b = B at *
 by_cases h1 : op = 1
 ·subst h1
  rw [show opB 1 A B = if A = 0 ∨ B = 0 then max A B else bnd (max A B + 1) by simp [opB]] at *
  by_cases hz : A = 0 ∨ B = 0
  ·rw [if_pos hz] at *
   rw [bnd_id (by omega) (by omega)] at hres
   have qa := ka (by omega); have qb := kb (by omega)
   rcases hz with h | h
   ·subst h
    have : n = 0 := by have := qa.2.1; simp at this; omega
    subst this
    refine mk B.toNat m (by omega) (by omega) ?_ qb.1 qb.2.1
    rw [opI_1, wrap_small (by omega) (by omega)]; omega
   ·subst h
    have : m = 0 := by have := qb.2.1; simp at this; omega
    subst this
    refine mk A.toNat n (by omega) (by omega) ?_ qa.1 qa.2.1
    rw [opI_1, wrap_small (by omega) (by omega)]; omega
  ·rw [if_neg hz] at *
   rw [bnd_bnd] at hres
   have hm : max A B + 1 ≤ 16 := by
    by_cases h : max A B + 1 ≤ 16
    ·exact h
    ·exact absurd (bnd_out (by omega)) hres
   have qa := ka (by omega); have qb := kb (by omega)
   refine mk (max A B + 1).toNat (n + m) (by rw [bnd_in (by omega) hm]; omega) (by omega) ?_ (by omega) ?_
   ·rw [opI_1, wrap_small (by omega) (by omega)]
   ·have e : (max A B + 1).toNat = (max A B).toNat + 1 := by omega
    have pa : 2 ^ A.toNat ≤ 2 ^ (max A B).toNat := Nat.pow_le_pow_right (by decide) (by omega)
    have pb : 2 ^ B.toNat ≤ 2 ^ (max A B).toNat := Nat.pow_le_pow_right (by decide) (by omega)
    rw [e, Nat.pow_succ]; omega
 by_cases h3 : op = 3
 ·subst h3
  rw [show opB 3 A B = if A = 0 ∨ B = 0 then 0 else bnd (A + B) by simp [opB]] at *
  by_cases hz : A = 0 ∨ B = 0
  ·rw [if_pos hz] at *
   refine mk 0 0 rfl (by omega) ?_ (by omega) (by decide)
   rcases hz with h | h
   ·subst h
    have qa := ka (by omega)
    have : n = 0 := by have := qa.2.1; simp at this; omega
    subst this
    rw [opI_3, Int.zero_mul]; exact wrap_small (by omega) (by omega)
   ·subst h
    have qb := kb (by omega)
    have : m = 0 := by have := qb.2.1; simp at this; omega
    subst this
    rw [opI_3, Int.mul_zero]; exact wrap_small (by omega) (by omega)
  ·rw [if_neg hz] at *
   rw [bnd_bnd] at hres
   have hm : A + B ≤ 16 := by
    by_cases h : A + B ≤ 16
    ·exact h
    ·exact absurd (bnd_out (by omega)) hres
   have qa := ka (by omega); have qb := kb (by omega)
   obtain ⟨x, rfl⟩ := Int.eq_ofNat_of_zero_le qa.1
   obtain ⟨y, rfl⟩ := Int.eq_ofNat_of_zero_le qb.1
   have hxy : x * y < 2 ^ (A.toNat + B.toNat) := by
    rw [Nat.pow_add]
    exact Nat.mul_lt_mul'' (by omega) (by omega)
   have hp := pow_le16 (b := A.toNat + B.toNat) (by omega)
   refine mk (A + B).toNat ((x * y : Nat) : Int) (by rw [bnd_in (by omega) hm]; omega) (by omega) ?_ (by omega) ?_
   ·rw [opI_3, show (x : Int) * (y : Int) = ((x * y : Nat) : Int) by push_cast; rfl, wrap_small (by omega) (by omega)]
   ·rw [show (A + B).toNat = A.toNat + B.toNat by omega]; omega
 by_cases h4 : op = 4
 ·subst h4
  rw [show opB 4 A B = min A B by simp [opB]] at *
  rw [bnd_id (by omega) (by omega)] at hres
  have hle : ((toU n &&& toU m : Nat)) < 2 ^ (min A B).toNat := by
   by_cases h : A ≤ B
   ·have qa := ka (by omega)
    have := toU_pos qa.1 n1
    have h5 : toU n &&& toU m ≤ toU n := Nat.and_le_left
    rw [show (min A B).toNat = A.toNat by omega]; omega
   ·have qb := kb (by omega)
    have := toU_pos qb.1 m1
    have h5 : toU n &&& toU m ≤ toU m := Nat.and_le_right
    rw [show (min A B).toNat = B.toNat by omega]; omega
  have hp := pow_le16 (b := (min A B).toNat) (by omega)
  refine mk (min A B).toNat ((toU n &&& toU m : Nat) : Int) (by omega) (by omega) ?_ (by omega) (by omega)
  rw [opI_4, wrap_small (by omega) (by omega)]
 by_cases h5 : op = 5
 ·subst h5
  rw [show opB 5 A B = max A B by simp [opB]] at *
  rw [bnd_id (by omega) (by omega)] at hres
  have qa := ka (by omega); have qb := kb (by omega)
  have un := toU_pos qa.1 n1; have um := toU_pos qb.1 m1
  have pa : 2 ^ A.toNat ≤ 2 ^ (max A B).toNat := Nat.pow_le_pow_right (by decide) (by omega)
  have pb : 2 ^ B.toNat ≤ 2 ^ (max A B).toNat := Nat.pow_le_pow_right (by decide) (by omega)
  have hle : (toU n ||| toU m : Nat) < 2 ^ (max A B).toNat := Nat.or_lt_two_pow (by omega) (by omega)
  have hp := pow_le16 (b := (max A B).toNat) (by omega)
  refine mk (max A B).toNat ((toU n ||| toU m : Nat) : Int) (by omega) (by omega) ?_ (by omega) (by omega)
  rw [opI_5, wrap_small (by omega) (by omega)]
 by_cases h6 : op = 6
 ·subst h6
  rw [show opB 6 A B = max A B by simp [opB]] at *
  rw [bnd_id (by omega) (by omega)] at hres
  have qa := ka (by omega); have qb := kb (by omega)
  have un := toU_pos qa.1 n1; have um := toU_pos qb.1 m1
  have pa : 2 ^ A.toNat ≤ 2 ^ (max A B).toNat := Nat.pow_le_pow_right (by decide) (by omega)
  have pb : 2 ^ B.toNat ≤ 2 ^ (max A B).toNat := Nat.pow_le_pow_right (by decide) (by omega)
  have hle : (toU n ^^^ toU m : Nat) < 2 ^ (max A B).toNat := Nat.xor_lt_two_pow (by omega) (by omega)
  have hp := pow_le16 (b := (max A B).toNat) (by omega)
  refine mk (max A B).toNat ((toU n ^^^ toU m : Nat) : Int) (by omega) (by omega) ?_ (by omega) (by omega)
  rw [opI_6, wrap_small (by omega) (by omega)]
 by_cases h8 : op = 8 ∨ op = 9 ∨ op = 10
 ·have e : opB op A B = A := by unfold opB; rw [if_neg h1, if_neg h3, if_neg h4, if_neg (by omega), if_pos h8]
  rw [e] at hres mk ⊢
  rw [bnd_id (by omega) (by omega)] at hres
  have qa := ka (by omega)
  have un := toU_pos qa.1 n1
  have fin : ∀ v : Nat, v ≤ toU n → opI op n m = wrap64 (v : Int) → hasI A (opI op n m) = true := by
   intro v hv ev
   refine mk A.toNat (v : Int) (by omega) (by omega) ?_ (by omega) (by omega)
   rw [ev, wrap_small (by omega) (by omega)]
  rcases h8 with h | h | h
  ·subst h; exact fin _ (Nat.div_le_self _ _) (opI_8 n m)
  ·subst h; exact fin _ (Nat.div_le_self _ _) (opI_9 n m)
  ·subst h; exact fin _ (Nat.mod_le _ _) (opI_10 n m)
 ·exfalso
  have e : opB op A B = 17 := by unfold opB; rw [if_neg h1, if_neg h3, if_neg h4, if_neg (by omega), if_neg h8]
  rw [e] at hres
  exact hres (bnd_id (by omega) (by omega))
def More (w w' : World) : Prop := Below w.heap.size w w'

theorem More.refl (w : World) : More w w := Below.refl _ _
theorem More.size {w w' : World} (h : More w w') : w.heap.size ≤ w'.heap.size := Below.size h
theorem More.block {w w' : World} (h : More w w') (i : Nat) (hi : i < w.heap.size) : w'.heap[i]? = w.heap[i]? := Below.block h i hi
theorem More.trans {a b c : World} (h : More a b) (k : More b c) : More a c := Below.trans h (Below.mono k h.size)
theorem More.alloc {w w' : World} (h : More w w') (c : Array Value) (t : TypeId) : More w (w'.alloc (.cells c t)) := Below.alloc h h.size _
theorem More.setCell {w w' : World} (h : More w w') {a : Addr} (ha : w.heap.size ≤ a.block) (v : Value) : More w (w'.setCell a v) := Below.setCell h ha v
theorem More.drew {w w' : World} (h : More w w') : More w w'.drew := Below.drew h
theorem More.grownBy {w w1 w2 : World} {row : Option Nat} (h : More w w1) (hg : w1.grownBy w2 row) (hr : ∀ k, row = some k → w.heap.size ≤ k) : More w w2 := Below.grown h hg h.size hr
theorem cell_block {w : World} {a : Addr} {v : Value} (h : w.cell? a = some v) : a.block < w.heap.size := by
 rcases Nat.lt_or_ge a.block w.heap.size with h' | h'
 ·exact h'
 ·have e : w.heap[a.block]? = none := by simp [h']
  unfold World.cell? at h
  simp [e] at h
theorem More.cell {w w' : World} (h : More w w') {a : Addr} {v : Value} (hc : w.cell? a = some v) : w'.cell? a = some v := by
 rw [Below.cell h (cell_block hc)]; exact hc

def Says (P : Prop) (w : World) (e : Ending) (w' : World) : Prop := ∃ r : Bool, e = .returned (.bool r) ∧ (r = true ↔ P) ∧ More w w'

theorem Says.yes {P : Prop} {w w' : World} (h : P) (m : More w w') : Says P w (.returned (.bool true)) w' := ⟨true, rfl, by simp [h], m⟩
theorem Says.no {P : Prop} {w w' : World} (h : ¬ P) (m : More w w') : Says P w (.returned (.bool false)) w' := ⟨false, rfl, by simp [h], m⟩

structure Ins where
 op : Int
 a : Int
 b : Int
 c : Int
 n : Int

/-- Regions, by their Log and whether they are secret; instructions. -/
structure Prg where
 rl : Nat
 log : Nat → Int
 sec : Nat → Bool
 cl : Nat
 ins : Nat → Ins

def RegionsOk (rl : Nat) (log : Nat → Int) : Prop := rl ≤ 6 ∧ ∀ i, i < rl → 0 ≤ log i ∧ log i ≤ 6

/-- A register. -/
def Reg (regs x : Int) : Prop := 0 ≤ x ∧ x < regs
/-- The number of a region. -/
def Rgn (rl : Nat) (x : Int) : Prop := 0 ≤ x ∧ x < rl
/-- The number of an instruction. -/
def Plc (cl : Nat) (x : Int) : Prop := 0 ≤ x ∧ x < cl
/-- The number of a word of region x. -/
def Wrd (log : Nat → Int) (c n : Int) : Prop := 0 ≤ n ∧ n < 2 ^ (log c.toNat).toNat

/-- B1: an instruction of a program with so many regions, instructions, registers. -/
def InsOk (rl : Nat) (log : Nat → Int) (cl : Nat) (regs : Int) (i : Ins) : Prop :=
 if i.op = 1 then Reg regs i.a ∧ i.b = 0 ∧ i.c = 0
 else if i.op = 2 then Reg regs i.a ∧ Reg regs i.b ∧ i.c = 0 ∧ i.n = 0
 else if i.op = 3 then Reg regs i.a ∧ Reg regs i.b ∧ Rgn rl i.c
 else if i.op = 4 then Reg regs i.a ∧ Reg regs i.b ∧ Rgn rl i.c
 else if i.op = 5 then Reg regs i.a ∧ i.b = 0 ∧ Rgn rl i.c ∧ Wrd log i.c i.n
 else if i.op = 6 then Reg regs i.a ∧ i.b = 0 ∧ Rgn rl i.c ∧ Wrd log i.c i.n
 else if i.op = 7 then i.a = 0 ∧ i.b = 0 ∧ i.c = 0 ∧ Plc cl i.n
 else if i.op = 8 then Reg regs i.a ∧ Reg regs i.b ∧ (1 ≤ i.c ∧ i.c ≤ 4) ∧ Plc cl i.n
 else if i.op = 9 then Reg regs i.a ∧ i.b = 0 ∧ i.c = 0 ∧ i.n = 0
 else if i.op = 10 then Reg regs i.a ∧ Reg regs i.b ∧ i.c = 0
 else if i.op = 11 then Reg regs i.a ∧ i.b = 0 ∧ i.c = 0 ∧ 1 ≤ i.n ∧ i.n ≤ 64
 else if i.op = 12 then i.a = 0 ∧ i.b = 0 ∧ i.c = 0 ∧ i.n = 0
 else (21 ≤ i.op ∧ i.op ≤ 30) ∧ Reg regs i.a ∧ Reg regs i.b ∧ Reg regs i.c ∧ i.n = 0

def CodeOk (rl : Nat) (log : Nat → Int) (cl : Nat) (ins : Nat → Ins) (most : Nat) (regs : Int) : Prop :=
 1 ≤ cl ∧ cl ≤ most ∧ ∀ i, i < cl → InsOk rl log cl regs (ins i)

/-- B1, with so many instructions and registers at most. -/
def Prg.Ok (p : Prg) (most : Nat) (regs : Int) : Prop := RegionsOk p.rl p.log ∧ CodeOk p.rl p.log p.cl p.ins most regs

theorem InsOk.more {rl : Nat} {log : Nat → Int} {cl : Nat} {r r' : Int} (h : r ≤ r') {i : Ins} (k : InsOk rl log cl r i) : InsOk rl log cl r' i := by
 have up : ∀ x, Reg r x → Reg r' x := fun x hx => ⟨hx.1, Int.lt_of_lt_of_le hx.2 h⟩
 unfold InsOk at k ⊢
 by_cases h1 : i.op = 1
 ·rw [if_pos h1] at k ⊢; exact ⟨up _ k.1, k.2⟩
 rw [if_neg h1] at k ⊢
 by_cases h2 : i.op = 2
 ·rw [if_pos h2] at k ⊢; exact ⟨up _ k.1, up _ k.2.1, k.2.2⟩
 rw [if_neg h2] at k ⊢
 by_cases h3 : i.op = 3
 ·rw [if_pos h3] at k ⊢; exact ⟨up _ k.1, up _ k.2.1, k.2.2⟩
 rw [if_neg h3] at k ⊢
 by_cases h4 : i.op = 4
 ·rw [if_pos h4] at k ⊢; exact ⟨up _ k.1, up _ k.2.1, k.2.2⟩
 rw [if_neg h4] at k ⊢
 by_cases h5 : i.op = 5
 ·rw [if_pos h5] at k ⊢; exact ⟨up _ k.1, k.2⟩
 rw [if_neg h5] at k ⊢
 by_cases h6 : i.op = 6
 ·rw [if_pos h6] at k ⊢; exact ⟨up _ k.1, k.2⟩
 rw [if_neg h6] at k ⊢
 by_cases h7 : i.op = 7
 ·rw [if_pos h7] at k ⊢; exact k
 rw [if_neg h7] at k ⊢
 by_cases h8 : i.op = 8
 ·rw [if_pos h8] at k ⊢; exact ⟨up _ k.1, up _ k.2.1, k.2.2⟩
 rw [if_neg h8] at k ⊢
 by_cases h9 : i.op = 9
 ·rw [if_pos h9] at k ⊢; exact ⟨up _ k.1, k.2⟩
 rw [if_neg h9] at k ⊢
 by_cases h10 : i.op = 10
 ·rw [if_pos h10] at k ⊢; exact ⟨up _ k.1, up _ k.2.1, k.2.2⟩
 rw [if_neg h10] at k ⊢
 by_cases h11 : i.op = 11
 ·rw [if_pos h11] at k ⊢; exact ⟨up _ k.1, k.2⟩
 rw [if_neg h11] at k ⊢
 by_cases h12 : i.op = 12
 ·rw [if_pos h12] at k ⊢; exact k
 rw [if_neg h12] at k ⊢
 exact ⟨k.1, up _ k.2.1, up _ k.2.2.1, up _ k.2.2.2.1, k.2.2.2.2⟩

/-- Each program that may be is hard. -/
theorem Prg.Ok.hard {p : Prg} (h : p.Ok 200 8) : p.Ok 8000 10 :=
 ⟨h.1, h.2.1, by have := h.2.2.1; omega, fun i hi => (h.2.2.2 i hi).more (by decide)⟩

def RegsAt (w : World) (b o rl : Nat) (log : Nat → Int) (sec : Nat → Bool) : Prop :=
 ∀ i, i < rl → w.cell? ⟨b, o + i * 2, none⟩ = some (.int .i64 (log i)) ∧ w.cell? ⟨b, o + i * 2 + 1, none⟩ = some (.bool (sec i))
def CodeAt (w : World) (b o cl : Nat) (ins : Nat → Ins) : Prop :=
 ∀ i, i < cl → w.cell? ⟨b, o + i * 5, none⟩ = some (.int .i64 (ins i).op) ∧ w.cell? ⟨b, o + i * 5 + 1, none⟩ = some (.int .i64 (ins i).a) ∧ w.cell? ⟨b, o + i * 5 + 2, none⟩ = some (.int .i64 (ins i).b) ∧
  w.cell? ⟨b, o + i * 5 + 3, none⟩ = some (.int .i64 (ins i).c) ∧ w.cell? ⟨b, o + i * 5 + 4, none⟩ = some (.int .i64 (ins i).n)

theorem RegsAt.more {w w' : World} (m : More w w') {b o rl : Nat} {log : Nat → Int} {sec : Nat → Bool} (h : RegsAt w b o rl log sec) : RegsAt w' b o rl log sec :=
 fun i hi => ⟨m.cell (h i hi).1, m.cell (h i hi).2⟩
theorem CodeAt.more {w w' : World} (m : More w w') {b o cl : Nat} {ins : Nat → Ins} (h : CodeAt w b o cl ins) : CodeAt w' b o cl ins :=
 fun i hi => ⟨m.cell (h i hi).1, m.cell (h i hi).2.1, m.cell (h i hi).2.2.1, m.cell (h i hi).2.2.2.1, m.cell (h i hi).2.2.2.2⟩

/-- Where a program lies: the two slices' addresses (also as numbers, where there is an element) and capacities. -/
structure Loc where
 ra : Option Addr
 rb : Nat
 ro : Nat
 rc : Nat
 ca : Option Addr
 cb : Nat
 co : Nat
 cc : Nat

structure PIn (w : World) (p : Prg) (l : Loc) : Prop where
 hr : 0 < p.rl → l.ra = some ⟨l.rb, l.ro, none⟩
 hc : 0 < p.cl → l.ca = some ⟨l.cb, l.co, none⟩
 regs : RegsAt w l.rb l.ro p.rl p.log p.sec
 code : CodeAt w l.cb l.co p.cl p.ins

theorem PIn.more {w w' : World} (m : More w w') {p : Prg} {l : Loc} (h : PIn w p l) : PIn w' p l := ⟨h.hr, h.hc, h.regs.more m, h.code.more m⟩

def Blw (n e : Int) : Prop := 0 ≤ n ∧ n < e
def Btw (a b c : Int) : Prop := a ≤ c ∧ c ≤ b

/-- How many words a region has. -/
def wordsI (l : Int) : Int := 2 ^ l.toNat

theorem two_pow_le {k : Nat} (h : k ≤ 6) : (1 : Int) ≤ 2 ^ k ∧ (2 : Int) ^ k ≤ 64 := by
 have : k = 0 ∨ k = 1 ∨ k = 2 ∨ k = 3 ∨ k = 4 ∨ k = 5 ∨ k = 6 := by omega
 rcases this with rfl | rfl | rfl | rfl | rfl | rfl | rfl <;> decide

theorem Says.is_yes {P : Prop} (h : P) {w : World} {e : Ending} {w' : World} (s : Says P w e w') : e = .returned (.bool true) ∧ More w w' := by
 obtain ⟨r, rfl, hr, m⟩ := s
 cases r
 ·simpa using hr.2 h
 ·exact ⟨rfl, m⟩
theorem Says.is_no {P : Prop} (h : ¬ P) {w : World} {e : Ending} {w' : World} (s : Says P w e w') : e = .returned (.bool false) ∧ More w w' := by
 obtain ⟨r, rfl, hr, m⟩ := s
 cases r
 ·exact ⟨rfl, m⟩
 ·exact absurd (hr.1 rfl) h

/-- A memory: lists, by where they lie and how long they are. -/
def ListsAt (w : World) (b o ml : Nat) (A : Nat → Option Addr) (L C : Nat → Nat) : Prop := ∀ i, i < ml → w.cell? ⟨b, o + i, none⟩ = some (.slice (A i) (L i) (C i))
theorem ListsAt.more {w w' : World} (m : More w w') {b o ml : Nat} {A : Nat → Option Addr} {L C : Nat → Nat} (h : ListsAt w b o ml A L C) : ListsAt w' b o ml A L C := fun i hi => m.cell (h i hi)

/-- B2. -/
def FitsOk (rl : Nat) (log : Nat → Int) (ml : Nat) (L : Nat → Nat) : Prop := RegionsOk rl log ∧ ml = rl ∧ ∀ i, i < rl → (L i : Int) = wordsI (log i)
end
section
open Go.RowKit
set_option linter.unusedVariables false
/-- What is known of a number. -/
structure Kn where
 b : Int
 s : Bool

namespace Kn
def of (n : Int) : Kn := ⟨fitI n, false⟩
def join (x y : Kn) : Kn := ⟨max (bnd x.b) (bnd y.b), x.s || y.s⟩
def less (x y : Kn) : Kn := ⟨min (bnd x.b) (bnd y.b), x.s⟩
def op (o : Int) (x y : Kn) : Kn := ⟨opB o (bnd x.b) (bnd y.b), x.s || y.s⟩
/-- A register and a number together. -/
def index (k : Kn) (n : Int) : Kn := if n < 0 then ⟨17, k.s⟩ else op 1 k (of n)
/-- Bits from 0 to 17. -/
def Norm (x : Kn) : Prop := 0 ≤ x.b ∧ x.b ≤ 17
/-- No more is known of y. -/
def le (x y : Kn) : Prop := bnd x.b ≤ bnd y.b ∧ (x.s = true → y.s = true)

theorem le_refl (x : Kn) : le x x := ⟨Int.le_refl _, id⟩
theorem le_trans {x y z : Kn} (h : le x y) (k : le y z) : le x z := ⟨Int.le_trans h.1 k.1, fun q => k.2 (h.2 q)⟩
theorem le_anti {x y : Kn} (hx : x.Norm) (hy : y.Norm) (h : le x y) (k : le y x) : x = y := by
 have e1 := bnd_id hx.1 hx.2
 have e2 := bnd_id hy.1 hy.2
 have hb : x.b = y.b := by have := h.1; have := k.1; omega
 have hs : x.s = y.s := Bool.eq_iff_iff.2 ⟨h.2, k.2⟩
 cases x; cases y; simp_all

theorem opB_range (o : Int) {a b : Int} (h0 : 0 ≤ a) (h1 : a ≤ 17) (h2 : 0 ≤ b) (h3 : b ≤ 17) : 0 ≤ opB o a b ∧ opB o a b ≤ 17 := by
 have hb := fun k => bnd_range k
 unfold opB
 split
 ·split
  ·omega
  ·exact hb _
 split
 ·split
  ·omega
  ·exact hb _
 split
 ·omega
 split
 ·omega
 split
 ·omega
 ·omega
theorem opB_mono (o : Int) {a a' b b' : Int} (h0 : 0 ≤ a) (h1 : a ≤ a') (h2 : a' ≤ 17) (k0 : 0 ≤ b) (k1 : b ≤ b') (k2 : b' ≤ 17) : opB o a b ≤ opB o a' b' := by
 unfold opB
 split
 ·unfold bnd
  split <;> split <;> (repeat' split) <;> omega
 split
 ·unfold bnd
  split <;> split <;> (repeat' split) <;> omega
 split
 ·omega
 split
 ·omega
 split
 ·omega
 ·omega

theorem norm_of (n : Int) : (of n).Norm := fit_range n
theorem norm_join (x y : Kn) : (join x y).Norm := by have := bnd_range x.b; have := bnd_range y.b; unfold join Norm; dsimp only; omega
theorem norm_less (x y : Kn) : (less x y).Norm := by have := bnd_range x.b; have := bnd_range y.b; unfold less Norm; dsimp only; omega
theorem norm_op (o : Int) (x y : Kn) : (op o x y).Norm := by have hx := bnd_range x.b; have hy := bnd_range y.b; exact opB_range o hx.1 hx.2 hy.1 hy.2
theorem norm_index (k : Kn) (n : Int) : (index k n).Norm := by
 unfold index; split
 ·unfold Norm; dsimp only; omega
 ·exact norm_op _ _ _

theorem bnd_norm {x : Kn} (h : x.Norm) : bnd x.b = x.b := bnd_id h.1 h.2
theorem join_l (x y : Kn) : le x (join x y) := by
 have := bnd_norm (norm_join x y); unfold le; rw [this]
 unfold join; dsimp only
 exact ⟨by omega, fun h => by simp [h]⟩
theorem join_r (x y : Kn) : le y (join x y) := by
 have := bnd_norm (norm_join x y); unfold le; rw [this]
 unfold join; dsimp only
 exact ⟨by omega, fun h => by simp [h]⟩
theorem join_le {x y z : Kn} (h : le x z) (k : le y z) : le (join x y) z := by
 have := bnd_norm (norm_join x y); unfold le at *; rw [this]
 unfold join; dsimp only
 refine ⟨by omega, fun q => ?_⟩
 rcases Bool.or_eq_true_iff.1 q with q | q
 ·exact h.2 q
 ·exact k.2 q
theorem less_mono {x x' y y' : Kn} (h : le x x') (k : le y y') : le (less x y) (less x' y') := by
 have e1 := bnd_norm (norm_less x y); have e2 := bnd_norm (norm_less x' y'); unfold le at *; rw [e1, e2]
 unfold less; dsimp only
 exact ⟨by omega, h.2⟩
theorem op_mono (o : Int) {x x' y y' : Kn} (h : le x x') (k : le y y') : le (op o x y) (op o x' y') := by
 have e1 := bnd_norm (norm_op o x y); have e2 := bnd_norm (norm_op o x' y'); unfold le at *; rw [e1, e2]
 unfold op; dsimp only
 have r1 := bnd_range x.b; have r2 := bnd_range x'.b; have r3 := bnd_range y.b; have r4 := bnd_range y'.b
 refine ⟨opB_mono o r1.1 h.1 r2.2 r3.1 k.1 r4.2, fun q => ?_⟩
 rcases Bool.or_eq_true_iff.1 q with q | q
 ·rw [h.2 q]; rfl
 ·rw [k.2 q]; simp
theorem index_mono {x x' : Kn} (n : Int) (h : le x x') : le (index x n) (index x' n) := by
 unfold index; split
 ·exact ⟨Int.le_refl _, h.2⟩
 ·exact op_mono 1 h (le_refl _)
end Kn

/-- What is known of the registers. -/
abbrev KS := Nat → Kn

def setK (s : KS) (a : Int) (v : Kn) : KS := fun j => if j = a.toNat then v else s j

/-- What is known behind an instruction that goes on with the next one. -/
def nextK (p : Prg) (i : Ins) (s : KS) : KS :=
 if i.op = 1 then setK s i.a (Kn.of i.n)
 else if i.op = 2 then setK s i.a (s i.b.toNat)
 else if i.op = 10 then setK s i.a (Kn.index (s i.b.toNat) i.n)
 else if i.op = 3 ∨ i.op = 5 then setK s i.a ⟨17, p.sec i.c.toNat⟩
 else if i.op = 11 then setK s i.a (Kn.less (s i.a.toNat) (Kn.of (wrap64 (i.n - 1))))
 else if i.op = 4 ∨ i.op = 6 ∨ i.op = 12 then s
 else setK s i.a (Kn.op (i.op - 20) (s i.b.toNat) (s i.c.toNat))

/-- Where A's becomes Less, B's does, both do (B's behind A's). -/
def firstK (i : Ins) (s : KS) : KS := setK s i.a (Kn.less (s i.a.toNat) (s i.b.toNat))
def secondK (i : Ins) (s : KS) : KS := setK s i.b (Kn.less (s i.b.toNat) (s i.a.toNat))
def bothK (i : Ins) (s : KS) : KS := setK (firstK i s) i.b (Kn.less (s i.b.toNat) (s i.a.toNat))

/-- What is known where the condition of an IIf holds, and where it does not. -/
def yesK (i : Ins) (s : KS) : KS := if i.c = 1 then bothK i s else if i.c = 2 then s else if i.c = 3 then firstK i s else secondK i s
def noK (i : Ins) (s : KS) : KS := if i.c = 1 then s else if i.c = 2 then bothK i s else if i.c = 3 then secondK i s else firstK i s

/-- F1: where an instruction leads, and with what. -/
def leadsK (p : Prg) (at_ : Nat) (s : KS) : List (Nat × KS) :=
 if (p.ins at_).op = 7 then [((p.ins at_).n.toNat, s)]
 else if (p.ins at_).op = 9 then []
 else if (p.ins at_).op = 8 then [((p.ins at_).n.toNat, yesK (p.ins at_) s), (at_ + 1, noK (p.ins at_) s)]
 else [(at_ + 1, nextK p (p.ins at_) s)]

/-- Of no register is more known. -/
def leS (s t : KS) : Prop := ∀ j, j < 8 → Kn.le (s j) (t j)
def NormS (s : KS) : Prop := ∀ j, j < 8 → (s j).Norm
theorem leS_refl (s : KS) : leS s s := fun _ _ => Kn.le_refl _
theorem leS_trans {s t u : KS} (h : leS s t) (k : leS t u) : leS s u := fun j hj => Kn.le_trans (h j hj) (k j hj)

theorem setK_mono {s t : KS} (h : leS s t) {a : Int} {v v' : Kn} (k : Kn.le v v') : leS (setK s a v) (setK t a v') := fun j hj => by
 unfold setK; split
 ·exact k
 ·exact h j hj
theorem setK_norm {s : KS} (h : NormS s) {a : Int} {v : Kn} (k : v.Norm) : NormS (setK s a v) := fun j hj => by
 unfold setK; split
 ·exact k
 ·exact h j hj

/-- The registers that an instruction of a program that may be names. -/
theorem regs_of {p : Prg} {i : Ins} (h : InsOk p.rl p.log p.cl 8 i) :
  (¬ (i.op = 7 ∨ i.op = 12) → i.a.toNat < 8) ∧ (i.op = 2 ∨ i.op = 3 ∨ i.op = 4 ∨ i.op = 8 ∨ i.op = 10 ∨ 21 ≤ i.op → i.b.toNat < 8) ∧ (21 ≤ i.op → i.c.toNat < 8) ∧
  (1 ≤ i.op ∧ i.op ≤ 12 ∨ 21 ≤ i.op ∧ i.op ≤ 30) := by
 unfold InsOk Reg at h
 have hop : i.op = 1 ∨ i.op = 2 ∨ i.op = 3 ∨ i.op = 4 ∨ i.op = 5 ∨ i.op = 6 ∨ i.op = 7 ∨ i.op = 8 ∨ i.op = 9 ∨ i.op = 10 ∨ i.op = 11 ∨ i.op = 12 ∨ ¬ (1 ≤ i.op ∧ i.op ≤ 12) := by omega
 rcases hop with h1 | h1 | h1 | h1 | h1 | h1 | h1 | h1 | h1 | h1 | h1 | h1 | h1
 all_goals first
  | (simp [h1] at h; omega)
  | (rw [if_neg (by omega), if_neg (by omega), if_neg (by omega), if_neg (by omega), if_neg (by omega), if_neg (by omega), if_neg (by omega), if_neg (by omega), if_neg (by omega), if_neg (by omega), if_neg (by omega), if_neg (by omega)] at h; omega)

section
variable {p : Prg} {i : Ins}
theorem firstK_mono (hi : InsOk p.rl p.log p.cl 8 i) (h8 : i.op = 8) {s t : KS} (h : leS s t) : leS (firstK i s) (firstK i t) := by
 have hr := regs_of hi
 exact setK_mono h (Kn.less_mono (h _ (hr.1 (by omega))) (h _ (hr.2.1 (by omega))))
theorem secondK_mono (hi : InsOk p.rl p.log p.cl 8 i) (h8 : i.op = 8) {s t : KS} (h : leS s t) : leS (secondK i s) (secondK i t) := by
 have hr := regs_of hi
 exact setK_mono h (Kn.less_mono (h _ (hr.2.1 (by omega))) (h _ (hr.1 (by omega))))
theorem bothK_mono (hi : InsOk p.rl p.log p.cl 8 i) (h8 : i.op = 8) {s t : KS} (h : leS s t) : leS (bothK i s) (bothK i t) := by
 have hr := regs_of hi
 exact setK_mono (firstK_mono hi h8 h) (Kn.less_mono (h _ (hr.2.1 (by omega))) (h _ (hr.1 (by omega))))
theorem yesK_mono (hi : InsOk p.rl p.log p.cl 8 i) (h8 : i.op = 8) {s t : KS} (h : leS s t) : leS (yesK i s) (yesK i t) := by
 unfold yesK
 split
 ·exact bothK_mono hi h8 h
 split
 ·exact h
 split
 ·exact firstK_mono hi h8 h
 ·exact secondK_mono hi h8 h
theorem noK_mono (hi : InsOk p.rl p.log p.cl 8 i) (h8 : i.op = 8) {s t : KS} (h : leS s t) : leS (noK i s) (noK i t) := by
 unfold noK
 split
 ·exact h
 split
 ·exact bothK_mono hi h8 h
 split
 ·exact secondK_mono hi h8 h
 ·exact firstK_mono hi h8 h
theorem nextK_mono (hi : InsOk p.rl p.log p.cl 8 i) (h7 : ¬ i.op = 7) (h8 : ¬ i.op = 8) (h9 : ¬ i.op = 9) {s t : KS} (h : leS s t) : leS (nextK p i s) (nextK p i t) := by
 have hr := regs_of hi
 unfold nextK
 split
 ·exact setK_mono h (Kn.le_refl _)
 split
 ·exact setK_mono h (h _ (hr.2.1 (by omega)))
 split
 ·exact setK_mono h (Kn.index_mono _ (h _ (hr.2.1 (by omega))))
 split
 ·exact setK_mono h (Kn.le_refl _)
 split
 ·exact setK_mono h (Kn.less_mono (h _ (hr.1 (by omega))) (Kn.le_refl _))
 split
 ·exact h
 ·exact setK_mono h (Kn.op_mono _ (h _ (hr.2.1 (by omega))) (h _ (hr.2.2.1 (by omega))))
theorem nextK_norm {s : KS} (hi : InsOk p.rl p.log p.cl 8 i) (h7 : ¬ i.op = 7) (h8 : ¬ i.op = 8) (h9 : ¬ i.op = 9) (h : NormS s) : NormS (nextK p i s) := by
 have hr := regs_of hi
 unfold nextK
 split
 ·exact setK_norm h (Kn.norm_of _)
 split
 ·exact setK_norm h (h _ (hr.2.1 (by omega)))
 split
 ·exact setK_norm h (Kn.norm_index _ _)
 split
 ·exact setK_norm h (by unfold Kn.Norm; dsimp only; omega)
 split
 ·exact setK_norm h (Kn.norm_less _ _)
 split
 ·exact h
 ·exact setK_norm h (Kn.norm_op _ _ _)
theorem firstK_norm {s : KS} (h : NormS s) : NormS (firstK i s) := setK_norm h (Kn.norm_less _ _)
theorem secondK_norm {s : KS} (h : NormS s) : NormS (secondK i s) := setK_norm h (Kn.norm_less _ _)
theorem bothK_norm {s : KS} (h : NormS s) : NormS (bothK i s) := setK_norm (firstK_norm h) (Kn.norm_less _ _)
theorem yesK_norm {s : KS} (h : NormS s) : NormS (yesK i s) := by
 unfold yesK
 split
 ·exact bothK_norm h
 split
 ·exact h
 split
 ·exact firstK_norm h
 ·exact secondK_norm h
theorem noK_norm {s : KS} (h : NormS s) : NormS (noK i s) := by
 unfold noK
 split
 ·exact h
 split
 ·exact bothK_norm h
 split
 ·exact secondK_norm h
 ·exact firstK_norm h
end

/-- What is known where each instruction is come to; of one that nothing leads to, nothing. -/
abbrev KV := Nat → Option KS

/-- One of the leads of a state below is below one of the leads of the state. -/
theorem leads_mono {p : Prg} {at_ : Nat} (hi : InsOk p.rl p.log p.cl 8 (p.ins at_)) {s t : KS} (h : leS s t) {x : Nat × KS} (hx : x ∈ leadsK p at_ s) : ∃ y, (x.1, y) ∈ leadsK p at_ t ∧ leS x.2 y := by
 unfold leadsK at *
 by_cases h7 : (p.ins at_).op = 7
 ·rw [if_pos h7] at *
  simp at hx; subst hx
  exact ⟨t, by simp, h⟩
 rw [if_neg h7] at *
 by_cases h9 : (p.ins at_).op = 9
 ·rw [if_pos h9] at *; simp at hx
 rw [if_neg h9] at *
 by_cases h8 : (p.ins at_).op = 8
 ·rw [if_pos h8] at *
  simp at hx
  rcases hx with rfl | rfl
  ·exact ⟨_, List.mem_cons_self, yesK_mono hi h8 h⟩
  ·exact ⟨noK (p.ins at_) t, by simp, noK_mono hi h8 h⟩
 ·rw [if_neg h8] at *
  simp at hx; subst hx
  exact ⟨nextK p (p.ins at_) t, by simp, nextK_mono hi h7 h8 h9 h⟩

theorem leads_norm {p : Prg} {at_ : Nat} (hi : InsOk p.rl p.log p.cl 8 (p.ins at_)) {s : KS} (h : NormS s) {x : Nat × KS} (hx : x ∈ leadsK p at_ s) : NormS x.2 := by
 unfold leadsK at *
 by_cases h7 : (p.ins at_).op = 7
 ·rw [if_pos h7] at *
  simp at hx; subst hx; exact h
 rw [if_neg h7] at *
 by_cases h9 : (p.ins at_).op = 9
 ·rw [if_pos h9] at *; simp at hx
 rw [if_neg h9] at *
 by_cases h8 : (p.ins at_).op = 8
 ·rw [if_pos h8] at *
  simp at hx
  rcases hx with rfl | rfl
  ·exact yesK_norm h
  ·exact noK_norm h
 ·rw [if_neg h8] at *
  simp at hx; subst hx
  exact nextK_norm hi h7 h8 h9 h

def zeroK : KS := fun _ => ⟨0, false⟩

/-- All that leads somewhere is held there. -/
structure Closed (p : Prg) (l : KV) : Prop where
 first : ∃ s, l 0 = some s ∧ leS zeroK s
 leads : ∀ at_ s, at_ < p.cl → l at_ = some s → ∀ x ∈ leadsK p at_ s, x.1 < p.cl → ∃ u, l x.1 = some u ∧ leS x.2 u

/-- Below another: come to nowhere else, and with no less known. -/
def BelowV (p : Prg) (l l' : KV) : Prop := ∀ at_ s, at_ < p.cl → l at_ = some s → ∃ u, l' at_ = some u ∧ leS s u
def NormV (p : Prg) (l : KV) : Prop := ∀ at_ s, at_ < p.cl → l at_ = some s → NormS s

/-- THE KNOWN STATES: the least that hold all that leads there. -/
structure Known (p : Prg) (l : KV) : Prop where
 closed : Closed p l
 norm : NormV p l
 least : ∀ l', Closed p l' → BelowV p l l'

/-- They are one, as far as they reach. -/
theorem Known.one {p : Prg} {l l' : KV} (h : Known p l) (k : Known p l') {at_ : Nat} (ha : at_ < p.cl) :
  (l at_ = none ∧ l' at_ = none) ∨ ∃ s t, l at_ = some s ∧ l' at_ = some t ∧ ∀ j, j < 8 → s j = t j := by
 cases e : l at_ with
 | none =>
  cases e' : l' at_ with
  | none => exact .inl ⟨rfl, rfl⟩
  | some t =>
   obtain ⟨u, hu, _⟩ := k.least l h.closed at_ t ha e'
   rw [e] at hu; cases hu
 | some s =>
  obtain ⟨t, ht, hst⟩ := h.least l' k.closed at_ s ha e
  obtain ⟨u, hu, htu⟩ := k.least l h.closed at_ t ha ht
  rw [e] at hu; cases hu
  exact .inr ⟨s, t, rfl, ht, fun j hj => Kn.le_anti (h.norm at_ s ha e j hj) (k.norm at_ t ha ht j hj) (hst j hj) (htu j hj)⟩
/-- What is known somewhere, and what leads there, together. -/
def joinV (o : Option KS) (t : KS) : KS := match o with
 | none => t
 | some s => fun j => Kn.join (s j) (t j)
def putV (l : KV) (n : Nat) (s : KS) : KV := fun x => if x = n then some s else l x
/-- The same, of all registers. -/
def SameV (s : KS) (o : Option KS) : Prop := ∃ t, o = some t ∧ ∀ j, j < 8 → s j = t j

theorem putV_same (l : KV) (n : Nat) (s : KS) : putV l n s n = some s := by simp [putV]
theorem putV_other (l : KV) {n x : Nat} (h : x ≠ n) (s : KS) : putV l n s x = l x := by simp [putV, h]

/-- What holds of all that is on the way to the known states. -/
structure OnWay (p : Prg) (l : KV) : Prop where
 first : ∃ s, l 0 = some s ∧ leS zeroK s
 norm : NormV p l
 low : ∀ l', Closed p l' → BelowV p l l'

theorem joinV_up {o : Option KS} {s t : KS} (h : o = some s) : leS s (joinV o t) := by subst h; exact fun j _ => Kn.join_l _ _
theorem joinV_r {o : Option KS} {t : KS} : leS t (joinV o t) := by
 cases o with
 | none => exact leS_refl t
 | some s => exact fun j _ => Kn.join_r _ _

theorem OnWay.start {p : Prg} (h : 0 < p.cl) : OnWay p (putV (fun _ => none) 0 zeroK) where
 first := ⟨zeroK, putV_same _ _ _, leS_refl _⟩
 norm := fun at_ s ha e => by
  by_cases h0 : at_ = 0
  ·subst h0; rw [putV_same] at e; cases e
   exact fun j _ => by unfold zeroK Kn.Norm; dsimp only; omega
  ·rw [putV_other _ h0] at e; cases e
 low := fun l' hc at_ s ha e => by
  by_cases h0 : at_ = 0
  ·subst h0; rw [putV_same] at e; cases e
   exact hc.first
  ·rw [putV_other _ h0] at e; cases e

/-- A lead that every vector that holds all holds. -/
structure Just (p : Prg) (x : Nat × KS) : Prop where
 norm : NormS x.2
 low : ∀ l', Closed p l' → x.1 < p.cl → ∃ u, l' x.1 = some u ∧ leS x.2 u
theorem OnWay.just {p : Prg} (hp : p.Ok 200 8) {l : KV} (h : OnWay p l) {at_ : Nat} {s : KS} (ha : at_ < p.cl) (e : l at_ = some s) {x : Nat × KS} (hx : x ∈ leadsK p at_ s) : Just p x := by
 have hi := hp.2.2.2 at_ ha
 refine ⟨leads_norm hi (h.norm at_ s ha e) hx, fun l' hc hn => ?_⟩
 obtain ⟨u, eu, hsu⟩ := h.low l' hc at_ s ha e
 obtain ⟨y, hy, hxy⟩ := leads_mono hi hsu hx
 obtain ⟨v, ev, hyv⟩ := hc.leads at_ u ha eu _ hy hn
 exact ⟨v, ev, leS_trans hxy hyv⟩
/-- A join of such a lead keeps it. -/
theorem OnWay.joinJ {p : Prg} {l : KV} (h : OnWay p l) {x : Nat × KS} (hx : Just p x) (hn : x.1 < p.cl) : OnWay p (putV l x.1 (joinV (l x.1) x.2)) := by
 refine ⟨?_, ?_, ?_⟩
 ·obtain ⟨s0, e0, l0⟩ := h.first
  by_cases h0 : 0 = x.1
  ·refine ⟨joinV (l x.1) x.2, by rw [← h0]; exact putV_same _ _ _, ?_⟩
   rw [← h0, e0]
   exact leS_trans l0 (joinV_up rfl)
  ·exact ⟨s0, by rw [putV_other _ h0]; exact e0, l0⟩
 ·intro a t hat et
  by_cases h0 : a = x.1
  ·subst h0
   rw [putV_same] at et; cases et
   cases eo : l x.1 with
   | none => exact hx.norm
   | some s1 => exact fun j _ => Kn.norm_join _ _
  ·rw [putV_other _ h0] at et; exact h.norm a t hat et
 ·intro l' hc a t hat et
  by_cases h0 : a = x.1
  ·subst h0
   rw [putV_same] at et; cases et
   obtain ⟨v, ev, hxv⟩ := hx.low l' hc hn
   refine ⟨v, ev, ?_⟩
   cases eo : l x.1 with
   | none => exact hxv
   | some s1 =>
    obtain ⟨v', ev', h1⟩ := h.low l' hc x.1 s1 hn eo
    rw [ev] at ev'; cases ev'
    exact fun j hj => Kn.join_le (h1 j hj) (hxv j hj)
  ·rw [putV_other _ h0] at et; exact h.low l' hc a t hat et
/-- All that leads from an instruction is held. -/
def Held (p : Prg) (l : KV) (at_ : Nat) : Prop := ∀ s, l at_ = some s → ∀ x ∈ leadsK p at_ s, x.1 < p.cl → ∃ u, l x.1 = some u ∧ leS x.2 u

/-- A lead that adds nothing is held. -/
theorem held_of_same {o : Option KS} {t : KS} (h : SameV (joinV o t) o) : ∃ u, o = some u ∧ leS t u := by
 obtain ⟨u, e, hj⟩ := h
 refine ⟨u, e, fun j hj' => ?_⟩
 rw [← hj j hj']
 exact joinV_r j hj'

/-- Where no lead adds anything, they are the known states. -/
theorem OnWay.known {p : Prg} {l : KV} (h : OnWay p l) (hh : ∀ at_ s, at_ < p.cl → l at_ = some s → ∀ x ∈ leadsK p at_ s, x.1 < p.cl → ∃ u, l x.1 = some u ∧ leS x.2 u) : Known p l :=
 ⟨⟨h.first, hh⟩, h.norm, h.low⟩

def rankK (k : Kn) : Nat := k.b.toNat + if k.s then 1 else 0
def rankS (s : KS) : Nat → Nat
 | 0 => 1
 | n + 1 => rankS s n + rankK (s n)
def rankO (o : Option KS) : Nat := match o with
 | none => 0
 | some s => rankS s 8
def rankV (l : KV) : Nat → Nat
 | 0 => 0
 | n + 1 => rankV l n + rankO (l n)

theorem rankK_le {k : Kn} (h : k.Norm) : rankK k ≤ 18 := by unfold rankK; have := h.2; split <;> omega
theorem rankS_le {s : KS} : ∀ n, (∀ j, j < n → (s j).Norm) → rankS s n ≤ 1 + 18 * n
 | 0, _ => by simp [rankS]
 | n + 1, h => by
  have h1 := rankS_le n (fun j hj => h j (by omega))
  have h2 := rankK_le (h n (by omega))
  rw [rankS]; omega
theorem rankO_le {o : Option KS} (h : ∀ s, o = some s → NormS s) : rankO o ≤ 145 := by
 cases o with
 | none => simp [rankO]
 | some s => exact rankS_le 8 (h s rfl)
theorem rankV_le {p : Prg} {l : KV} (h : NormV p l) : ∀ n, n ≤ p.cl → rankV l n ≤ 145 * n
 | 0, _ => by simp [rankV]
 | n + 1, hn => by
  have h1 := rankV_le h n (by omega)
  have h2 := rankO_le (o := l n) (fun s e => h n s (by omega) e)
  rw [rankV]; omega

theorem rankK_mono {x y : Kn} (hx : x.Norm) (hy : y.Norm) (h : Kn.le x y) : rankK x ≤ rankK y ∧ (rankK y ≤ rankK x → x = y) := by
 have e1 := Kn.bnd_norm hx; have e2 := Kn.bnd_norm hy
 have hb : x.b ≤ y.b := by have := h.1; omega
 have hs := h.2
 unfold rankK
 cases hxs : x.s <;> cases hys : y.s
 ·refine ⟨by simp; omega, fun q => Kn.le_anti hx hy h ⟨?_, by simp [hys]⟩⟩
  simp at q; have := hx.1; have := hy.1; omega
 ·refine ⟨by simp; omega, fun q => ?_⟩
  simp at q; have := hx.1; have := hy.1; omega
 ·simp [hxs, hys] at hs
 ·refine ⟨by simp; omega, fun q => Kn.le_anti hx hy h ⟨?_, by simp [hxs]⟩⟩
  simp at q; have := hx.1; have := hy.1; omega
theorem rankS_mono {s t : KS} : ∀ n, n ≤ 8 → NormS s → NormS t → leS s t → rankS s n ≤ rankS t n ∧ (rankS t n ≤ rankS s n → ∀ j, j < n → s j = t j)
 | 0, _, _, _, _ => ⟨Nat.le_refl _, fun _ j hj => by omega⟩
 | n + 1, hn, hs, ht, h => by
  have h1 := rankS_mono n (by omega) hs ht h
  have h2 := rankK_mono (hs n (by omega)) (ht n (by omega)) (h n (by omega))
  rw [rankS, rankS]
  refine ⟨by omega, fun q j hj => ?_⟩
  by_cases e : j = n
  ·subst e; exact h2.2 (by omega)
  ·exact h1.2 (by omega) j (by omega)
theorem rankS_pos (s : KS) : ∀ n, 1 ≤ rankS s n
 | 0 => Nat.le_refl _
 | n + 1 => by have := rankS_pos s n; rw [rankS]; omega

/-- A join that is another state has more rank. -/
theorem rankO_up {o : Option KS} {t : KS} (hn : ∀ s, o = some s → NormS s) (ht : NormS t) (h : ¬ SameV (joinV o t) o) : rankO o < rankS (joinV o t) 8 := by
 cases o with
 | none => exact rankS_pos _ 8
 | some s =>
  have hs := hn s rfl
  have hj : NormS (joinV (some s) t) := fun j _ => Kn.norm_join _ _
  have hm := rankS_mono 8 (Nat.le_refl _) hs hj (joinV_up rfl)
  rcases Nat.lt_or_ge (rankS s 8) (rankS (joinV (some s) t) 8) with q | q
  ·exact q
  ·exact absurd ⟨s, rfl, fun j hj' => (hm.2 q j hj').symm⟩ h

theorem rankO_in (l : KV) : ∀ m n, n < m → rankO (l n) ≤ rankV l m
 | 0, _, h => absurd h (Nat.not_lt_zero _)
 | m + 1, n, h => by
  rw [rankV]
  by_cases e : n = m
  ·subst e; omega
  ·have := rankO_in l m n (by omega); omega
theorem rankV_put (l : KV) (n : Nat) (s : KS) : ∀ m, rankV (putV l n s) m = if n < m then rankV l m + rankS s 8 - rankO (l n) else rankV l m
 | 0 => by simp [rankV]
 | m + 1 => by
  rw [rankV, rankV_put l n s m, rankV]
  by_cases e : m = n
  ·subst e
   rw [if_neg (by omega), if_pos (by omega), putV_same]
   show rankV l m + rankS s 8 = _
   omega
  ·rw [putV_other _ e]
   by_cases h : n < m
   ·rw [if_pos h, if_pos (by omega)]
    have : rankO (l n) ≤ rankV l m := rankO_in l m n h
    omega
   ·rw [if_neg h, if_neg (by omega)]

/-- A join that changes something has more rank, and there is no more than so much. -/
theorem rank_up {p : Prg} {l : KV} (hl : NormV p l) {n : Nat} (hn : n < p.cl) {t : KS} (ht : NormS t) (h : ¬ SameV (joinV (l n) t) (l n)) : rankV l p.cl < rankV (putV l n (joinV (l n) t)) p.cl := by
 rw [rankV_put, if_pos hn]
 have h1 := rankO_up (o := l n) (fun s e => hl n s hn e) ht h
 have h2 := rankO_in l p.cl n hn
 omega

def secretK (p : Prg) (i : Ins) (s : KS) : Bool :=
 if i.op = 3 then (s i.b.toNat).s
 else if i.op = 4 then (s i.b.toNat).s || ((s i.a.toNat).s && !p.sec i.c.toNat)
 else if i.op = 6 then (s i.a.toNat).s && !p.sec i.c.toNat
 else if i.op = 8 then (s i.a.toNat).s || (s i.b.toNat).s
 else if i.op = 29 ∨ i.op = 30 then (s i.b.toNat).s || (s i.c.toNat).s
 else if i.op = 9 then (s i.a.toNat).s
 else false
def boundK (p : Prg) (i : Ins) (s : KS) : Bool := (decide (i.op = 3) || decide (i.op = 4)) && (decide (i.n < 0) || decide (p.log i.c.toNat < (Kn.index (s i.b.toNat) i.n).b))
/-- It leads to where no instruction is. -/
def outK (p : Prg) (at_ : Nat) : Bool := !(decide ((p.ins at_).op = 7)) && (!(decide ((p.ins at_).op = 9)) && decide (p.cl ≤ at_ + 1))
/-- What is wrong with an instruction that is come to; 0: nothing. -/
def faultK (p : Prg) (at_ : Nat) (s : KS) : Int := if outK p at_ || boundK p (p.ins at_) s then 4 else if secretK p (p.ins at_) s then 5 else 0
/-- The first fault from an instruction on. -/
def scanK (p : Prg) (l : KV) : Nat → Nat → Int × Int
 | 0, _ => (0, 0)
 | n + 1, at_ => match l at_ with
  | none => scanK p l n (at_ + 1)
  | some s => if faultK p at_ s = 0 then scanK p l n (at_ + 1) else (faultK p at_ s, at_)
def checkK (p : Prg) (l : KV) : Int × Int := scanK p l p.cl 0

theorem fault_congr {p : Prg} (hp : p.Ok 200 8) {at_ : Nat} (ha : at_ < p.cl) {s t : KS} (h : ∀ j, j < 8 → s j = t j) : faultK p at_ s = faultK p at_ t := by
 have hi := hp.2.2.2 at_ ha
 have hr := regs_of hi
 unfold faultK boundK secretK
 generalize p.ins at_ = i at *
 by_cases h3 : i.op = 3
 ·rw [h _ (hr.2.1 (by omega))]; simp [h3]
 by_cases h4 : i.op = 4
 ·rw [h _ (hr.2.1 (by omega)), h _ (hr.1 (by omega))]; simp [h4]
 by_cases h6 : i.op = 6
 ·rw [h _ (hr.1 (by omega))]; simp [h6]
 by_cases h8 : i.op = 8
 ·rw [h _ (hr.1 (by omega)), h _ (hr.2.1 (by omega))]; simp [h8]
 by_cases h29 : i.op = 29 ∨ i.op = 30
 ·rw [h _ (hr.2.1 (by omega)), h _ (hr.2.2.1 (by omega))]; simp [h3, h4, h6, h8, h29]
 by_cases h9 : i.op = 9
 ·rw [h _ (hr.1 (by omega))]; simp [h9]
 ·simp [h3, h4, h6, h8, h29, h9]

theorem scan_congr {p : Prg} (hp : p.Ok 200 8) {l l' : KV} (h : ∀ at_, at_ < p.cl → (l at_ = none ∧ l' at_ = none) ∨ ∃ s t, l at_ = some s ∧ l' at_ = some t ∧ ∀ j, j < 8 → s j = t j) :
  ∀ n at_, at_ + n = p.cl → scanK p l n at_ = scanK p l' n at_
 | 0, at_, _ => rfl
 | n + 1, at_, e => by
  rcases h at_ (by omega) with ⟨h1, h2⟩ | ⟨s, t, h1, h2, hst⟩
  ·simp only [scanK, h1, h2]
   exact scan_congr hp h n (at_ + 1) (by omega)
  ·simp only [scanK, h1, h2]
   rw [fault_congr hp (by omega) hst, scan_congr hp h n (at_ + 1) (by omega)]

/-- The known states of a program are one: so is its first fault. -/
theorem check_one {p : Prg} (hp : p.Ok 200 8) {l l' : KV} (h : Known p l) (k : Known p l') : checkK p l = checkK p l' :=
 scan_congr hp (fun _ ha => h.one k ha) p.cl 0 (by omega)

/-- Without a fault no instruction that is come to has one. -/
theorem scan_ok {p : Prg} {l : KV} : ∀ n at_, (scanK p l n at_).1 = 0 → ∀ a, at_ ≤ a → a < at_ + n → ∀ s, l a = some s → faultK p a s = 0
 | 0, at_, _, a, h1, h2 => by omega
 | n + 1, at_, h, a, h1, h2 => fun s e => by
  rw [scanK] at h
  cases e0 : l at_ with
  | none =>
   rw [e0] at h
   by_cases q : a = at_
   ·subst q; rw [e0] at e; cases e
   ·exact scan_ok n (at_ + 1) h a (by omega) (by omega) s e
  | some t =>
   rw [e0] at h
   dsimp only at h
   by_cases q0 : faultK p at_ t = 0
   ·rw [if_pos q0] at h
    by_cases q : a = at_
    ·subst q; rw [e0] at e; cases e; exact q0
    ·exact scan_ok n (at_ + 1) h a (by omega) (by omega) s e
   ·rw [if_neg q0] at h
    exact absurd h q0
theorem check_ok {p : Prg} {l : KV} (h : (checkK p l).1 = 0) {a : Nat} (ha : a < p.cl) {s : KS} (e : l a = some s) : faultK p a s = 0 :=
 scan_ok p.cl 0 h a (Nat.zero_le _) (by omega) s e
/-- One lead is joined to what is known where it leads; where that is something new, it is to be gone on from there. -/
def ComeK (p : Prg) (l : KV) (td : List Nat) (x : Nat × KS) (l' : KV) (td' : List Nat) : Prop :=
 (¬ x.1 < p.cl ∧ l' = l ∧ td' = td) ∨ (x.1 < p.cl ∧ SameV (joinV (l x.1) x.2) (l x.1) ∧ l' = l ∧ td' = td) ∨ (x.1 < p.cl ∧ ¬ SameV (joinV (l x.1) x.2) (l x.1) ∧ l' = putV l x.1 (joinV (l x.1) x.2) ∧ td' = td ++ [x.1])

/-- Where it stands: of all that leads somewhere what is not held is still to be joined, or it is to be gone on from there. -/
structure Todo (p : Prg) (l : KV) (td : List Nat) (a : Nat) (R : List (Nat × KS)) : Prop where
 on : OnWay p l
 just : ∀ x ∈ R, Just p x
 left : ∀ k s, k < p.cl → l k = some s → k ∈ td ∨ ∀ x ∈ leadsK p k s, x.1 < p.cl → (∃ u, l x.1 = some u ∧ leS x.2 u) ∨ (k = a ∧ x ∈ R)
 come : ∀ k ∈ td, k < p.cl ∧ ∃ s, l k = some s
 short : td.length ≤ rankV l p.cl

theorem put_up {l : KV} {n : Nat} {t : KS} {k : Nat} {u : KS} (e : l k = some u) : ∃ u', putV l n (joinV (l n) t) k = some u' ∧ leS u u' := by
 by_cases h : k = n
 ·subst h
  exact ⟨_, putV_same _ _ _, joinV_up e⟩
 ·exact ⟨u, by rw [putV_other _ h]; exact e, leS_refl _⟩

theorem Todo.next {p : Prg} {l l' : KV} {td td' : List Nat} {a : Nat} {x : Nat × KS} {R : List (Nat × KS)} (h : Todo p l td a (x :: R)) (c : ComeK p l td x l' td') :
  Todo p l' td' a R ∧ rankV l p.cl ≤ rankV l' p.cl ∧ td'.length + rankV l p.cl ≤ td.length + rankV l' p.cl ∧ ∀ k, (∃ s, l k = some s) → ∃ s, l' k = some s := by
 have hj := h.just x List.mem_cons_self
 have hj' : ∀ y ∈ R, Just p y := fun y hy => h.just y (List.mem_cons_of_mem _ hy)
 rcases c with ⟨hn, rfl, rfl⟩ | ⟨hn, hs, rfl, rfl⟩ | ⟨hn, hs, rfl, rfl⟩
 ·refine ⟨⟨h.on, hj', fun k s hk e => ?_, h.come, h.short⟩, Nat.le_refl _, Nat.le_refl _, fun _ q => q⟩
  rcases h.left k s hk e with q | q
  ·exact .inl q
  ·refine .inr (fun y hy hy1 => ?_)
   rcases q y hy hy1 with q | ⟨q1, q2⟩
   ·exact .inl q
   ·rcases List.mem_cons.1 q2 with rfl | q2
    ·exact absurd hy1 hn
    ·exact .inr ⟨q1, q2⟩
 ·refine ⟨⟨h.on, hj', fun k s hk e => ?_, h.come, h.short⟩, Nat.le_refl _, Nat.le_refl _, fun _ q => q⟩
  rcases h.left k s hk e with q | q
  ·exact .inl q
  ·refine .inr (fun y hy hy1 => ?_)
   rcases q y hy hy1 with q | ⟨q1, q2⟩
   ·exact .inl q
   ·rcases List.mem_cons.1 q2 with rfl | q2
    ·exact .inl (held_of_same hs)
    ·exact .inr ⟨q1, q2⟩
 ·have hr := rank_up h.on.norm hn hj.norm hs
  refine ⟨⟨h.on.joinJ hj hn, hj', fun k s hk e => ?_, fun k hk => ?_, ?_⟩, Nat.le_of_lt hr, ?_, fun k ⟨s, e⟩ => ?_⟩
  ·by_cases hk0 : k = x.1
   ·exact .inl (by rw [hk0]; simp)
   ·rw [putV_other _ hk0] at e
    rcases h.left k s hk e with q | q
    ·exact .inl (List.mem_append_left _ q)
    ·refine .inr (fun y hy hy1 => ?_)
     rcases q y hy hy1 with ⟨u, q1, q2⟩ | ⟨q1, q2⟩
     ·obtain ⟨u', h1, h2⟩ := put_up (n := x.1) (t := x.2) q1
      exact .inl ⟨u', h1, leS_trans q2 h2⟩
     ·rcases List.mem_cons.1 q2 with rfl | q2
      ·exact .inl ⟨_, putV_same _ _ _, joinV_r⟩
      ·exact .inr ⟨q1, q2⟩
  ·rcases List.mem_append.1 hk with q | q
   ·obtain ⟨h1, s, e⟩ := h.come k q
    obtain ⟨u, e', _⟩ := put_up (n := x.1) (t := x.2) e
    exact ⟨h1, u, e'⟩
   ·obtain rfl : k = x.1 := by simpa using q
    exact ⟨hn, _, putV_same _ _ _⟩
  ·have := h.short
   rw [List.length_append]; simp; omega
  ·rw [List.length_append]; simp; omega
  ·obtain ⟨u, e', _⟩ := put_up (n := x.1) (t := x.2) e
   exact ⟨u, e'⟩

theorem Todo.start {p : Prg} (hp : 0 < p.cl) {l' : KV} {td' : List Nat} (c : ComeK p (fun _ => none) [] (0, zeroK) l' td') : Todo p l' td' 0 [] := by
 rcases c with ⟨hn, _⟩ | ⟨hn, hs, _⟩ | ⟨hn, hs, rfl, rfl⟩
 ·exact absurd hp hn
 ·obtain ⟨t, e, _⟩ := hs
  cases e
 ·refine ⟨OnWay.start hp, fun x hx => absurd hx (by simp), fun k s hk e => ?_, fun k hk => ?_, ?_⟩
  ·by_cases h0 : k = 0
   ·exact .inl (by rw [h0]; simp)
   ·rw [putV_other _ h0] at e; cases e
  ·obtain rfl : k = 0 := by simpa using hk
   exact ⟨hp, _, putV_same _ _ _⟩
  ·rw [rankV_put, if_pos hp]
   have h1 := rankS_pos (joinV none zeroK) 8
   have h2 := rankO_in (fun _ => (none : Option KS)) p.cl 0 hp
   show 1 ≤ _
   dsimp only [rankO] at *
   omega

theorem Todo.pop {p : Prg} (hp : p.Ok 200 8) {l : KV} {td : List Nat} {a b : Nat} (h : Todo p l (td ++ [a]) b []) {s : KS} (e : l a = some s) : Todo p l td a (leadsK p a s) := by
 have ha := (h.come a (by simp)).1
 refine ⟨h.on, fun x hx => h.on.just hp ha e hx, fun k t hk ek => ?_, fun k hk => h.come k (List.mem_append_left _ hk), ?_⟩
 ·rcases h.left k t hk ek with q | q
  ·rcases List.mem_append.1 q with q | q
   ·exact .inl q
   ·obtain rfl : k = a := by simpa using q
    rw [e] at ek; cases ek
    exact .inr (fun x hx _ => .inr ⟨rfl, hx⟩)
  ·refine .inr (fun x hx hx1 => ?_)
   rcases q x hx hx1 with q | ⟨_, q⟩
   ·exact .inl q
   ·exact absurd q (by simp)
 ·have := h.short
  rw [List.length_append] at this; simp at this; omega

theorem Todo.known {p : Prg} {l : KV} {a : Nat} (h : Todo p l [] a []) : Known p l :=
 h.on.known (fun k s hk e x hx hx1 => by
  rcases h.left k s hk e with q | q
  ·exact absurd q (by simp)
  ·rcases q x hx hx1 with q | ⟨_, q⟩
   ·exact q
   ·exact absurd q (by simp))

/-- A number below 0 has all bits from 0 on. -/
theorem index_op (k : Kn) (n : Int) (h0 : -9223372036854775808 ≤ n) : Kn.index k n = Kn.op 1 k (Kn.of n) := by
 unfold Kn.index
 split
 ·rename_i h
  have hf : fitI n = 17 := by
   have h1 := toU_neg h h0
   have h2 : ¬ bitLen (toU n) ≤ 16 := fun q => by have := (bitLen_le _ _).1 q; omega
   exact bnd_out (.inr (by omega))
  have hr := bnd_range k.b
  unfold Kn.op Kn.of
  dsimp only
  rw [hf, bnd_id (k := 17) (by omega) (by omega), Bool.or_false]
  have : opB 1 (bnd k.b) 17 = 17 := by
   unfold opB
   rw [if_pos rfl]
   split
   ·omega
   ·exact bnd_out (.inr (by omega))
  rw [this]
 ·rfl
end
section
open Go.RowKit
theorem bl_eq : ∀ n x : Nat, x ≤ n → x < 18446744073709551616 → Lib.bitLen x = Go.bitLen x
  | 0, x, h, _ => by
    obtain rfl : x = 0 := by omega
    simp [Lib.bitLen, Lib.bitLenAux, Go.bitLen]
  | n + 1, x, h, hx => by
    by_cases h0 : x = 0
    · subst h0; simp [Lib.bitLen, Lib.bitLenAux, Go.bitLen]
    · rw [Lib.bitLen_half x h0 hx, bl_eq n (x / 2) (by omega) (by omega)]
      by_cases h1 : x / 2 = 0
      · obtain rfl : x = 1 := by omega
        decide +kernel
      · have := Go.bitLen_shift x 1 (by simpa using h1)
        rw [Nat.pow_one] at this
        exact this.symm

theorem tab_len (i : Nat) (h : i < Lib.len8tab.size) : (Lib.len8tab[i]).toNat = Lib.bitLen i := by
  have e := Lib.len8_eq ⟨i, by rw [Lib.len8tab_size] at h; exact h⟩
  simp only [Lib.len8, Int.toNat_natCast, ByteArray.getElem?_lt' _ _ h, Option.getD_some] at e
  exact_mod_cast e

theorem tab_end {x q : Int} (k : Nat) (v : Nat) (hv : v = Lib.bitLen q.toNat) (h0 : 0 ≤ x) (h1 : x ≤ 18446744073709551615) (q0 : 0 ≤ q) (q1 : q < 256) (hq : q.toNat = x.toNat / 2 ^ k) (hk : k ≤ 56) (hp : q ≠ 0) :
    wrap64 ((k : Int) + wrap64 (v : Int)) = (Lib.bitLen x.toNat : Int) := by
  have l := Lib.bitLen_le8' q q0 (by omega)
  have s := Lib.bitLen_shift k x.toNat (by
    have h2 : x.toNat / 2 ^ k ≠ 0 := by omega
    rcases Nat.lt_or_ge x.toNat (2 ^ k) with h | h
    · exact absurd (Nat.div_eq_of_lt h) h2
    · exact h) (by
      have e : (2 : Nat) ^ 64 = 18446744073709551616 := by decide +kernel
      rw [e]; omega)
  rw [s, ← hq, ← hv]
  rw [← hv] at l
  clear s hv hq hp q1 q0 h0 h1
  unfold wrap64
  omega

set_option maxHeartbeats 4000000 in
set_option maxRecDepth 100000 in
theorem len64_calls (x : Int) (w : World) (h0 : 0 ≤ x) (h1 : x ≤ 18446744073709551615) :
    Calls Try.prog 102 #[.int .u64 x] w fun e w' => e = .returned (.int .i64 (Lib.bitLen x.toNat)) ∧ w' = w := by
  have hsz := Lib.len8tab_size
  go_enter Try.func102, Try.ntmps102
  go_wp2
  all_goals (go_ret; refine ⟨congrArg Ending.returned (congrArg (Value.int IntKind.i64) ?_), rfl⟩)
  all_goals first
    | (exact tab_end (x := x) (q := x / 4294967296 / 65536 / 256) 56 _ (tab_len _ _) (by omega) (by omega) (by omega) (by omega) (by rw [show (2 ^ 56 : Nat) = 72057594037927936 by decide +kernel]; omega) (by omega) (by omega))
    | (exact tab_end (x := x) (q := x / 4294967296 / 65536) 48 _ (tab_len _ _) (by omega) (by omega) (by omega) (by omega) (by rw [show (2 ^ 48 : Nat) = 281474976710656 by decide +kernel]; omega) (by omega) (by omega))
    | (exact tab_end (x := x) (q := x / 4294967296 / 256) 40 _ (tab_len _ _) (by omega) (by omega) (by omega) (by omega) (by rw [show (2 ^ 40 : Nat) = 1099511627776 by decide +kernel]; omega) (by omega) (by omega))
    | (exact tab_end (x := x) (q := x / 4294967296) 32 _ (tab_len _ _) (by omega) (by omega) (by omega) (by omega) (by rw [show (2 ^ 32 : Nat) = 4294967296 by decide +kernel]; omega) (by omega) (by omega))
    | (exact tab_end (x := x) (q := x / 65536 / 256) 24 _ (tab_len _ _) (by omega) (by omega) (by omega) (by omega) (by rw [show (2 ^ 24 : Nat) = 16777216 by decide +kernel]; omega) (by omega) (by omega))
    | (exact tab_end (x := x) (q := x / 65536) 16 _ (tab_len _ _) (by omega) (by omega) (by omega) (by omega) (by rw [show (2 ^ 16 : Nat) = 65536 by decide +kernel]; omega) (by omega) (by omega))
    | (exact tab_end (x := x) (q := x / 256) 8 _ (tab_len _ _) (by omega) (by omega) (by omega) (by omega) (by rw [show (2 ^ 8 : Nat) = 256 by decide +kernel]; omega) (by omega) (by omega))
    | (rw [tab_len]
       have l := Lib.bitLen_le8' x h0 (by omega)
       unfold wrap64
       omega)

/-- known.bounded. -/
theorem bounded_calls (k : Int) (w : World) :
    Calls Try.prog 99 #[.int .i64 k] w fun e w' => e = .returned (.int .i64 (bnd k)) ∧ w' = w := by
  by_cases h : k < 0
  · rw [bnd_out (.inl h)]
    go_enter Try.func99, Try.ntmps99
    go_wp2
    go_ret
    exact ⟨rfl, rfl⟩
  by_cases h2 : 16 < k
  · rw [bnd_out (.inr h2)]
    go_enter Try.func99, Try.ntmps99
    go_wp2
    go_ret
    exact ⟨rfl, rfl⟩
  · rw [bnd_in (by omega) (by omega)]
    go_enter Try.func99, Try.ntmps99
    go_wp2
    go_ret
    exact ⟨rfl, rfl⟩

/-- known.fitting. -/
theorem fitting_calls (n : Int) (w : World) :
    Calls Try.prog 100 #[.int .i64 n] w fun e w' => e = .returned (.int .i64 (fitI n)) ∧ w' = w := by
  obtain ⟨l, hl⟩ : ∃ l : Int, ((Lib.bitLen (toU n) : Nat) : Int) = l := ⟨_, rfl⟩
  have hf : fitI n = bnd l := by unfold fitI; rw [← hl, bl_eq _ _ (Nat.le_refl _) (toU_lt n)]
  have c : ∀ w : World, Calls Try.prog 102 #[.int .u64 (IntKind.u64.wrap n)] w fun e w' => e = .returned (.int .i64 l) ∧ w' = w := by
    intro w
    have := len64_calls (IntKind.u64.wrap n) w (by rw [uwrap]; omega) (by rw [uwrap]; have := toU_lt n; omega)
    rw [uwrap, Int.toNat_natCast, hl] at this
    rw [uwrap]; exact this
  rw [hf]
  clear hf hl
  obtain ⟨b, hb⟩ : ∃ b, bnd l = b := ⟨_, rfl⟩
  have c2 : ∀ w : World, Calls Try.prog 99 #[.int .i64 l] w fun e w' => e = .returned (.int .i64 b) ∧ w' = w := fun w => hb ▸ bounded_calls l w
  rw [hb]
  clear hb
  go_enter Try.func100, Try.ntmps100
  go_wp2_with (fail)
  refine (c _).mono ?_
  rintro e w1 ⟨rfl, rfl⟩
  go_wp2_with (fail)
  refine (c2 _).mono ?_
  rintro e w1 ⟨rfl, rfl⟩
  go_wp2
  go_ret
  exact ⟨rfl, rfl⟩
end
section
open Go
section
variable {P : Program} {ops : Array Oper} {Q : Exit → Act → World → Prop} {md : Region.Mode} {S : World → Prop}

/-- The named order: an operation's number, and whether it is taken first (true) or is the only one that may come up (false). -/
def ordB (md : Region.Mode) (ops : Array Oper) : List (Nat × Bool) → Array Bool → Bool
 | [], listed => (Region.ready md ops listed).isEmpty
 | (i, t) :: rest, listed =>
  (ops[i]?).isSome && (if t then Region.free md ops listed i && (Region.ready md ops listed).contains i else Region.ready md ops listed == [i]) &&
   ordB md ops rest (listed.setIfInBounds i true)

/-- An operation that reads alone: one value in every world that meets S. -/
def OrdTake (P : Program) (ops : Array Oper) (S : World → Prop) (o : Oper) (a : Act) (w : World) (K : Act → World → Prop) : Prop :=
 if Region.wanted o (yielded ops a.tmps) = true then ∃ v, (∀ i : { w' // S w' }, (execOp a.eval o).run P i.val = .ok (.value v) i.val) ∧ K (a.put o.dst v) w
 else K (a.put o.dst undef) w

/-- One that calls or makes memory: behind it S holds anew. -/
def OrdBusy (P : Program) (ops : Array Oper) (Q : Exit → Act → World → Prop) (o : Oper) (a : Act) (w : World) (K : Act → World → Prop) : Prop :=
 if Region.wanted o (yielded ops a.tmps) = true then Oper.wp P o a w K Q else K (a.put o.dst undef) w

def wpOrd (P : Program) (ops : Array Oper) (Q : Exit → Act → World → Prop) (S : World → Prop) : List (Nat × Bool) → Act → World → Prop
 | [], a, w => Q .normal a w
 | (i, t) :: rest, a, w =>
  match ops[i]? with
  | none => False
  | some o => if t then OrdTake P ops S o a w (fun a' w' => wpOrd P ops Q S rest a' w') else OrdBusy P ops Q o a w (fun a' w' => S w' ∧ wpOrd P ops Q S rest a' w')

theorem wpOrd_held (hs : Region.noSelect ops = true) (hQ : ∀ c (a : Act) d v w, Q (.panic c) (a.put d v) w → Q (.panic c) a w) :
  ∀ (l : List (Nat × Bool)) (listed : Array Bool) (a : Act) (w : World), ordB md ops l listed = true → S w → wpOrd P ops Q S l a w → wpAnyH P md ops Q S l.length listed a w
 | [], listed, a, w, hB, _, h => ⟨by simpa [ordB] using hB, h⟩
 | (i, t) :: rest, listed, a, w, hB, hS, h => by
  simp only [ordB, Bool.and_eq_true] at hB
  obtain ⟨⟨ho, hc⟩, hB'⟩ := hB
  obtain ⟨o, ho⟩ := Option.isSome_iff_exists.1 ho
  simp only [wpOrd, ho] at h
  cases t with
  | true =>
   simp only [if_true, Bool.and_eq_true] at hc h
   unfold OrdTake at h
   by_cases hw : Region.wanted o (yielded ops a.tmps) = true
   ·rw [if_pos hw] at h
    obtain ⟨v, hv, hk⟩ := h
    exact wpAnyH_take ho hs hc.1 hc.2 (fun c a w => hQ c a _ _ w) (.inl ⟨hw, fun w' hw' => hv ⟨w', hw'⟩⟩) hS (wpOrd_held hs hQ rest _ _ _ hB' hS hk)
   ·rw [if_neg hw] at h
    exact wpAnyH_take ho hs hc.1 hc.2 (fun c a w => hQ c a _ _ w) (.inr ⟨by simpa using hw, rfl⟩) hS (wpOrd_held hs hQ rest _ _ _ hB' hS h)
  | false =>
   simp only [Bool.false_eq_true, if_false, beq_iff_eq] at hc h
   refine wpAnyH_all hc (by simp) (fun j hj => ?_)
   obtain rfl : j = i := by simpa using hj
   unfold OrdBusy at h
   unfold wpOp
   rw [ho]
   show if Region.wanted o (yielded ops a.tmps) = true then _ else _
   by_cases hw : Region.wanted o (yielded ops a.tmps) = true
   ·rw [if_pos hw] at h ⊢
    exact .inl (Oper.wp_mono (fun a' w' h' => ⟨h'.1, wpOrd_held hs hQ rest _ _ _ hB' h'.1 h'.2⟩) h)
   ·rw [if_neg hw] at h ⊢
    exact ⟨hS, wpOrd_held hs hQ rest _ _ _ hB' h.1 h.2⟩

/-- The walk as a structure, so that nothing looks into it unasked. -/
structure Ord (P : Program) (ops : Array Oper) (Q : Exit → Act → World → Prop) (S : World → Prop) (l : List (Nat × Bool)) (a : Act) (w : World) : Prop where
 out : wpOrd P ops Q S l a w

/-- A region that asks the tape, by a named order. -/
theorem wp_region_ord {id : Nat} {a : Act} {w : World} (l : List (Nat × Bool)) (hm : P.follows .mixedOrders = true) (hs : Region.noSelect ops = true)
  (hB : (ordB .any ops l (Array.replicate ops.size false) && l.length == ops.size) = true) (hS : S w.drew) (h : Ord P ops (NoPanic Q) S l a w.drew) : (Code.region id ops true).wp P Q a w := by
 rw [Bool.and_eq_true] at hB
 have hl : l.length = ops.size := by simpa using hB.2
 refine wp_region_noPanic (wp_region_held_drew (S := S) hm hS (fun _ => ?_))
 rw [← hl]
 have := wpOrd_held (P := P) (md := .any) (S := S) (Q := NoPanic Q) hs (fun _ _ _ _ _ h => h) l (Array.replicate ops.size false) a w.drew hB.1 hS h.out
 rwa [← hl] at this

def nth {α : Type} : List α → Nat → Option α
 | [], _ => none
 | x :: _, 0 => some x
 | _ :: l, n + 1 => nth l n
theorem nth_at {α : Type} : ∀ (l : List α) (n : Nat), nth l n = l[n]?
 | [], _ => rfl
 | _ :: _, 0 => rfl
 | _ :: l, n + 1 => by rw [nth, nth_at l n]; rfl
theorem nth_arr {α : Type} {l : List α} {n : Nat} {x : α} (h : nth l n = some x) : l.toArray[n]? = some x := by rw [List.getElem?_toArray, ← nth_at]; exact h

theorem wpOrd_take {ls : List Oper} {i : Nat} {o : Oper} {rest : List (Nat × Bool)} {a : Act} {w : World} (ho' : nth ls i = some o) (hw : Region.wanted o (yielded ls.toArray a.tmps) = true)
  (h : ∀ K : Act → World → Prop, (∀ a w, Ord P ls.toArray Q S rest a w → K a w) → ∃ v, (∀ i : { w' // S w' }, (execOp a.eval o).run P i.val = .ok (.value v) i.val) ∧ K (a.put o.dst v) w) :
  Ord P ls.toArray Q S ((i, true) :: rest) a w := by
 have ho := nth_arr ho'
 refine ⟨?_⟩
 simp only [wpOrd, ho]
 unfold OrdTake
 simp only [if_true]
 rw [if_pos hw]
 exact h _ (fun _ _ h => h.out)
theorem wpOrd_busy {ls : List Oper} {i : Nat} {o : Oper} {rest : List (Nat × Bool)} {a : Act} {w : World} (ho' : nth ls i = some o) (hw : Region.wanted o (yielded ls.toArray a.tmps) = true)
  (h : ∀ K : Act → World → Prop, (∀ a w, S w → Ord P ls.toArray Q S rest a w → K a w) → Oper.wp P o a w K Q) : Ord P ls.toArray Q S ((i, false) :: rest) a w := by
 have ho := nth_arr ho'
 refine ⟨?_⟩
 simp only [wpOrd, ho, Bool.false_eq_true, if_false]
 unfold OrdBusy
 rw [if_pos hw]
 exact h _ (fun _ _ hs h => ⟨hs, h.out⟩)
/-- A move, an assignment. -/
theorem wpOrd_move {ls : List Oper} {i : Nat} {o : Oper} {x : Operand} {rest : List (Nat × Bool)} {a : Act} {w : World} (ho' : nth ls i = some o) (hop : o.op = .move x)
  (hw : Region.wanted o (yielded ls.toArray a.tmps) = true)
  (h : ∀ K : Act → World → Prop, (∀ a w, Ord P ls.toArray Q S rest a w → K a w) → K (a.put o.dst (a.eval x)) w) : Ord P ls.toArray Q S ((i, true) :: rest) a w := by
 refine wpOrd_take ho' hw (fun K hK => ⟨a.eval x, fun i => ?_, h K hK⟩)
 unfold execOp
 rw [hop]
 rfl
theorem wpOrd_assign {ls : List Oper} {i : Nat} {o : Oper} {x : Operand} {rest : List (Nat × Bool)} {a : Act} {w : World} (ho' : nth ls i = some o) (hop : o.op = .assign x)
  (hw : Region.wanted o (yielded ls.toArray a.tmps) = true)
  (h : ∀ K : Act → World → Prop, (∀ a w, Ord P ls.toArray Q S rest a w → K a w) → K (a.put o.dst (a.eval x)) w) : Ord P ls.toArray Q S ((i, true) :: rest) a w := by
 refine wpOrd_take ho' hw (fun K hK => ⟨a.eval x, fun i => ?_, h K hK⟩)
 unfold execOp
 rw [hop]
 rfl

/-- A pick whose test is false, or true. -/
theorem wpOrd_pickF {ls : List Oper} {i : Nat} {o : Oper} {c x y : Operand} {rest : List (Nat × Bool)} {a : Act} {w : World} (ho' : nth ls i = some o) (hop : o.op = .pick c x y)
  (hw : Region.wanted o (yielded ls.toArray a.tmps) = true) (hc : a.eval c = .bool false)
  (h : ∀ K : Act → World → Prop, (∀ a w, Ord P ls.toArray Q S rest a w → K a w) → K (a.put o.dst (a.eval y)) w) : Ord P ls.toArray Q S ((i, true) :: rest) a w := by
 have ho := nth_arr ho'
 refine ⟨?_⟩
 simp only [wpOrd, ho]
 unfold OrdTake
 simp only [if_true]
 rw [if_pos hw]
 refine ⟨a.eval y, fun i => ?_, h _ (fun _ _ h => h.out)⟩
 unfold execOp
 rw [hop]
 dsimp only
 rw [hc]
 rfl
theorem wpOrd_pickT {ls : List Oper} {i : Nat} {o : Oper} {c x y : Operand} {rest : List (Nat × Bool)} {a : Act} {w : World} (ho' : nth ls i = some o) (hop : o.op = .pick c x y)
  (hw : Region.wanted o (yielded ls.toArray a.tmps) = true) (hc : a.eval c = .bool true)
  (h : ∀ K : Act → World → Prop, (∀ a w, Ord P ls.toArray Q S rest a w → K a w) → K (a.put o.dst (a.eval x)) w) : Ord P ls.toArray Q S ((i, true) :: rest) a w := by
 have ho := nth_arr ho'
 refine ⟨?_⟩
 simp only [wpOrd, ho]
 unfold OrdTake
 simp only [if_true]
 rw [if_pos hw]
 refine ⟨a.eval x, fun i => ?_, h _ (fun _ _ h => h.out)⟩
 unfold execOp
 rw [hop]
 dsimp only
 rw [hc]
 rfl

/-- One that its guard passes over (its slot is as it was). -/
theorem wpOrd_skip {ls : List Oper} {i : Nat} {o : Oper} {t : Bool} {rest : List (Nat × Bool)} {a : Act} {w : World} (ho' : nth ls i = some o) (hS : S w)
  (hw : Region.wanted o (yielded ls.toArray a.tmps) = false) (hp : a.put o.dst undef = a) (h : Ord P ls.toArray Q S rest a w) : Ord P ls.toArray Q S ((i, t) :: rest) a w := by
 have ho := nth_arr ho'
 refine ⟨?_⟩
 simp only [wpOrd, ho]
 unfold OrdTake OrdBusy
 rw [hw, hp]
 cases t
 ·simp only [Bool.false_eq_true, if_false]; exact ⟨hS, h.out⟩
 ·simp only [Bool.false_eq_true, if_false, if_true]; exact h.out
/-- One that its guard passes over, whatever its slot held. -/
theorem wpOrd_pass {ls : List Oper} {i : Nat} {o : Oper} {t : Bool} {rest : List (Nat × Bool)} {a : Act} {w : World} (ho' : nth ls i = some o) (hS : S w)
  (hw : Region.wanted o (yielded ls.toArray a.tmps) = false)
  (h : ∀ K : Act → World → Prop, (∀ a w, Ord P ls.toArray Q S rest a w → K a w) → K (a.put o.dst undef) w) : Ord P ls.toArray Q S ((i, t) :: rest) a w := by
 have ho := nth_arr ho'
 refine ⟨?_⟩
 have hk := h (fun a w => wpOrd P ls.toArray Q S rest a w) (fun _ _ h => h.out)
 simp only [wpOrd, ho]
 unfold OrdTake OrdBusy
 rw [hw]
 cases t
 ·simp only [Bool.false_eq_true, if_false]; exact ⟨hS, hk⟩
 ·simp only [Bool.false_eq_true, if_false, if_true]; exact hk
theorem wpOrd_done {a : Act} {w : World} (h : Q .normal a w) : Ord P ops (NoPanic Q) S [] a w := ⟨h⟩

end
end
section
open Go.RowKit
/-- A Known, as a value. -/
abbrev kn (a : Int) (s : Bool) : Value := .agg #[.int .i64 a, .bool s]

/-- Two boxes, one behind the other, each with a Known. -/
structure Two (n : Nat) (a : Int) (sa : Bool) (b : Int) (sb : Bool) (w : World) : Prop where
 a0 : w.cell? ⟨n, 0, none⟩ = some (.int .i64 a)
 a1 : w.cell? ⟨n, 1, none⟩ = some (.bool sa)
 b0 : w.cell? ⟨n + 1, 0, none⟩ = some (.int .i64 b)
 b1 : w.cell? ⟨n + 1, 1, none⟩ = some (.bool sb)

theorem less_calls (a b : Int) (sa sb : Bool) (w : World) :
  Calls Try.prog 87 #[kn a sa, kn b sb] w fun e w' => e = .returned (kn (min (bnd a) (bnd b)) sa) ∧ More w w' := by
 obtain ⟨x, hx⟩ : ∃ x, bnd a = x := ⟨_, rfl⟩
 obtain ⟨y, hy⟩ : ∃ x, bnd b = x := ⟨_, rfl⟩
 have c1 : ∀ w : World, Calls Try.prog 99 #[.int .i64 a] w fun e w' => e = .returned (.int .i64 x) ∧ w' = w := fun w => hx ▸ bounded_calls a w
 have c2 : ∀ w : World, Calls Try.prog 99 #[.int .i64 b] w fun e w' => e = .returned (.int .i64 y) ∧ w' = w := fun w => hy ▸ bounded_calls b w
 rw [hx, hy]
 clear hx hy
 unfold kn
 obtain ⟨S, HS⟩ : ∃ S : World → Prop, Hid (∀ w', S w' ↔ Two w.heap.size a sa b sb w') := ⟨_, fun _ => Iff.rfl⟩
 have k0 : ∀ i : { w' // S w' }, i.val.cell? ⟨w.heap.size, 0, none⟩ = some (.int .i64 a) := fun i => ((HS.out _).1 i.property).a0
 have k1 : ∀ i : { w' // S w' }, i.val.cell? ⟨w.heap.size, 1, none⟩ = some (.bool sa) := fun i => ((HS.out _).1 i.property).a1
 have k2 : ∀ i : { w' // S w' }, i.val.cell? ⟨w.heap.size + 1, 0, none⟩ = some (.int .i64 b) := fun i => ((HS.out _).1 i.property).b0
 have k3 : ∀ i : { w' // S w' }, i.val.cell? ⟨w.heap.size + 1, 1, none⟩ = some (.bool sb) := fun i => ((HS.out _).1 i.property).b1
 obtain ⟨W, HW⟩ : ∃ W : World, Hid (W = ((w.alloc (.cells #[.int .i64 a, .bool sa] 65)).alloc (.cells #[.int .i64 b, .bool sb] 65)).alloc (.cells #[.int .i64 0, .bool false] 65)) := ⟨_, rfl⟩
 have HS0 : S W.drew := (HS.out _).2 (by rw [HW.out]; constructor <;> go_simp)
 have hne : Nonempty { w' // S w' } := ⟨⟨_, HS0⟩⟩
 go_enter Try.func87, Try.ntmps87
 go_wp2_with (fail)
 rw [← HW.out]
 refine wp_region_ord (S := S) [(0, true), (1, true), (3, true), (4, true), (7, true), (8, true), (2, false), (5, false), (6, false), (9, true), (10, false)] (by kernel_rfl) (by kernel_rfl) (by kernel_rfl) HS0 ?_
 iterate 6 (refine wpOrd_take rfl (by kernel_rfl) (fun K hK => ?_); go_simp; refine hK _ _ ?_; clear hK K)
 refine wpOrd_busy rfl (by kernel_rfl) (fun K hK => ?_); go_simp
 refine (c1 _).mono ?_
 rintro e w1 ⟨rfl, rfl⟩
 go_simp
 refine hK _ _ HS0 ?_; clear hK K
 refine wpOrd_busy rfl (by kernel_rfl) (fun K hK => ?_); go_simp
 refine (c2 _).mono ?_
 rintro e w1 ⟨rfl, rfl⟩
 go_simp
 refine hK _ _ HS0 ?_; clear hK K
 refine wpOrd_busy rfl (by kernel_rfl) (fun K hK => ?_); go_simp
 refine hK _ _ HS0 ?_; clear hK K
 (refine wpOrd_take rfl (by kernel_rfl) (fun K hK => ?_); go_simp; refine hK _ _ ?_; clear hK K)
 rw [HW.out]
 refine wpOrd_busy rfl (by kernel_rfl) (fun K hK => ?_); go_simp
 refine hK _ _ ((HS.out _).2 (by constructor <;> go_simp)) ?_; clear hK K
 refine wpOrd_done ?_
 clear k0 k1 k2 k3 hne HS0
 go_wp2
 exact bodyPost_ret (by simp [results, Try.results87, go_sem]) rfl ⟨rfl, ((((More.refl _).alloc _ _).alloc _ _).alloc _ _).drew⟩

theorem join_true (a b : Int) (sb : Bool) (w : World) :
  Calls Try.prog 86 #[kn a true, kn b sb] w fun e w' => e = .returned (kn (max (bnd a) (bnd b)) true) ∧ More w w' := by
 obtain ⟨x, hx⟩ : ∃ x, bnd a = x := ⟨_, rfl⟩
 obtain ⟨y, hy⟩ : ∃ x, bnd b = x := ⟨_, rfl⟩
 have c1 : ∀ w : World, Calls Try.prog 99 #[.int .i64 a] w fun e w' => e = .returned (.int .i64 x) ∧ w' = w := fun w => hx ▸ bounded_calls a w
 have c2 : ∀ w : World, Calls Try.prog 99 #[.int .i64 b] w fun e w' => e = .returned (.int .i64 y) ∧ w' = w := fun w => hy ▸ bounded_calls b w
 rw [hx, hy]
 clear hx hy
 unfold kn
 obtain ⟨S, HS⟩ : ∃ S : World → Prop, Hid (∀ w', S w' ↔ Two w.heap.size a true b sb w') := ⟨_, fun _ => Iff.rfl⟩
 have k0 : ∀ i : { w' // S w' }, i.val.cell? ⟨w.heap.size, 0, none⟩ = some (.int .i64 a) := fun i => ((HS.out _).1 i.property).a0
 have k1 : ∀ i : { w' // S w' }, i.val.cell? ⟨w.heap.size, 1, none⟩ = some (.bool true) := fun i => ((HS.out _).1 i.property).a1
 have k2 : ∀ i : { w' // S w' }, i.val.cell? ⟨w.heap.size + 1, 0, none⟩ = some (.int .i64 b) := fun i => ((HS.out _).1 i.property).b0
 have k3 : ∀ i : { w' // S w' }, i.val.cell? ⟨w.heap.size + 1, 1, none⟩ = some (.bool sb) := fun i => ((HS.out _).1 i.property).b1
 obtain ⟨W, HW⟩ : ∃ W : World, Hid (W = ((w.alloc (.cells #[.int .i64 a, .bool true] 65)).alloc (.cells #[.int .i64 b, .bool sb] 65)).alloc (.cells #[.int .i64 0, .bool false] 65)) := ⟨_, rfl⟩
 have HS0 : S W.drew := (HS.out _).2 (by rw [HW.out]; constructor <;> go_simp)
 have hne : Nonempty { w' // S w' } := ⟨⟨_, HS0⟩⟩
 go_enter Try.func86, Try.ntmps86
 go_wp2_with (fail)
 rw [← HW.out]
 refine wp_region_ord (S := S) [(0, true), (1, true), (3, true), (4, true), (7, true), (8, true), (2, false), (5, false), (9, true), (10, true), (11, true), (12, true), (6, false), (13, true), (14, false)] (by kernel_rfl) (by kernel_rfl) (by kernel_rfl) HS0 ?_
 iterate 6 (refine wpOrd_take rfl (by kernel_rfl) (fun K hK => ?_); go_simp; refine hK _ _ ?_; clear hK K)
 refine wpOrd_busy rfl (by kernel_rfl) (fun K hK => ?_); go_simp
 refine (c1 _).mono ?_
 rintro e w1 ⟨rfl, rfl⟩
 go_simp
 refine hK _ _ HS0 ?_; clear hK K
 refine wpOrd_busy rfl (by kernel_rfl) (fun K hK => ?_); go_simp
 refine (c2 _).mono ?_
 rintro e w1 ⟨rfl, rfl⟩
 go_simp
 refine hK _ _ HS0 ?_; clear hK K
 (refine wpOrd_take rfl (by kernel_rfl) (fun K hK => ?_); go_simp; refine hK _ _ ?_; clear hK K)
 iterate 2 (refine wpOrd_skip rfl HS0 (by kernel_rfl) (by kernel_rfl) ?_)
 refine wpOrd_pickT rfl rfl (by kernel_rfl) rfl (fun K hK => ?_); go_simp; refine hK _ _ ?_; clear hK K
 refine wpOrd_busy rfl (by kernel_rfl) (fun K hK => ?_); go_simp
 refine hK _ _ HS0 ?_; clear hK K
 (refine wpOrd_take rfl (by kernel_rfl) (fun K hK => ?_); go_simp; refine hK _ _ ?_; clear hK K)
 rw [HW.out]
 refine wpOrd_busy rfl (by kernel_rfl) (fun K hK => ?_); go_simp
 refine hK _ _ ((HS.out _).2 (by constructor <;> go_simp)) ?_; clear hK K
 refine wpOrd_done ?_
 clear k0 k1 k2 k3 hne HS0
 go_wp2
 exact bodyPost_ret (by simp [results, Try.results86, go_sem]) rfl ⟨rfl, ((((More.refl _).alloc _ _).alloc _ _).alloc _ _).drew⟩

theorem join_false (a b : Int) (sb : Bool) (w : World) :
  Calls Try.prog 86 #[kn a false, kn b sb] w fun e w' => e = .returned (kn (max (bnd a) (bnd b)) sb) ∧ More w w' := by
 obtain ⟨x, hx⟩ : ∃ x, bnd a = x := ⟨_, rfl⟩
 obtain ⟨y, hy⟩ : ∃ x, bnd b = x := ⟨_, rfl⟩
 have c1 : ∀ w : World, Calls Try.prog 99 #[.int .i64 a] w fun e w' => e = .returned (.int .i64 x) ∧ w' = w := fun w => hx ▸ bounded_calls a w
 have c2 : ∀ w : World, Calls Try.prog 99 #[.int .i64 b] w fun e w' => e = .returned (.int .i64 y) ∧ w' = w := fun w => hy ▸ bounded_calls b w
 rw [hx, hy]
 clear hx hy
 unfold kn
 obtain ⟨S, HS⟩ : ∃ S : World → Prop, Hid (∀ w', S w' ↔ Two w.heap.size a false b sb w') := ⟨_, fun _ => Iff.rfl⟩
 have k0 : ∀ i : { w' // S w' }, i.val.cell? ⟨w.heap.size, 0, none⟩ = some (.int .i64 a) := fun i => ((HS.out _).1 i.property).a0
 have k1 : ∀ i : { w' // S w' }, i.val.cell? ⟨w.heap.size, 1, none⟩ = some (.bool false) := fun i => ((HS.out _).1 i.property).a1
 have k2 : ∀ i : { w' // S w' }, i.val.cell? ⟨w.heap.size + 1, 0, none⟩ = some (.int .i64 b) := fun i => ((HS.out _).1 i.property).b0
 have k3 : ∀ i : { w' // S w' }, i.val.cell? ⟨w.heap.size + 1, 1, none⟩ = some (.bool sb) := fun i => ((HS.out _).1 i.property).b1
 obtain ⟨W, HW⟩ : ∃ W : World, Hid (W = ((w.alloc (.cells #[.int .i64 a, .bool false] 65)).alloc (.cells #[.int .i64 b, .bool sb] 65)).alloc (.cells #[.int .i64 0, .bool false] 65)) := ⟨_, rfl⟩
 have HS0 : S W.drew := (HS.out _).2 (by rw [HW.out]; constructor <;> go_simp)
 have hne : Nonempty { w' // S w' } := ⟨⟨_, HS0⟩⟩
 go_enter Try.func86, Try.ntmps86
 go_wp2_with (fail)
 rw [← HW.out]
 refine wp_region_ord (S := S) [(0, true), (1, true), (3, true), (4, true), (7, true), (8, true), (2, false), (5, false), (9, true), (10, true), (11, true), (12, true), (6, false), (13, true), (14, false)] (by kernel_rfl) (by kernel_rfl) (by kernel_rfl) HS0 ?_
 iterate 6 (refine wpOrd_take rfl (by kernel_rfl) (fun K hK => ?_); go_simp; refine hK _ _ ?_; clear hK K)
 refine wpOrd_busy rfl (by kernel_rfl) (fun K hK => ?_); go_simp
 refine (c1 _).mono ?_
 rintro e w1 ⟨rfl, rfl⟩
 go_simp
 refine hK _ _ HS0 ?_; clear hK K
 refine wpOrd_busy rfl (by kernel_rfl) (fun K hK => ?_); go_simp
 refine (c2 _).mono ?_
 rintro e w1 ⟨rfl, rfl⟩
 go_simp
 refine hK _ _ HS0 ?_; clear hK K
 iterate 3 (refine wpOrd_take rfl (by kernel_rfl) (fun K hK => ?_); go_simp; refine hK _ _ ?_; clear hK K)
 refine wpOrd_pickF rfl rfl (by kernel_rfl) rfl (fun K hK => ?_); go_simp; refine hK _ _ ?_; clear hK K
 refine wpOrd_busy rfl (by kernel_rfl) (fun K hK => ?_); go_simp
 refine hK _ _ HS0 ?_; clear hK K
 (refine wpOrd_take rfl (by kernel_rfl) (fun K hK => ?_); go_simp; refine hK _ _ ?_; clear hK K)
 rw [HW.out]
 refine wpOrd_busy rfl (by kernel_rfl) (fun K hK => ?_); go_simp
 refine hK _ _ ((HS.out _).2 (by constructor <;> go_simp)) ?_; clear hK K
 refine wpOrd_done ?_
 clear k0 k1 k2 k3 hne HS0
 go_wp2
 exact bodyPost_ret (by simp [results, Try.results86, go_sem]) rfl ⟨rfl, ((((More.refl _).alloc _ _).alloc _ _).alloc _ _).drew⟩

theorem join_calls (a b : Int) (sa sb : Bool) (w : World) :
  Calls Try.prog 86 #[kn a sa, kn b sb] w fun e w' => e = .returned (kn (max (bnd a) (bnd b)) (sa || sb)) ∧ More w w' := by
 cases sa with
 | true => exact join_true a b sb w
 | false => exact join_false a b sb w

theorem sum_calls (a b : Int) (h0 : 0 ≤ a) (h1 : a ≤ 17) (h2 : 0 ≤ b) (h3 : b ≤ 17) (w : World) :
  Calls Try.prog 103 #[.int .i64 a, .int .i64 b] w fun e w' => e = .returned (.int .i64 (if a = 0 ∨ b = 0 then max a b else max a b + 1)) ∧ w' = w := by
 by_cases ha : a = 0
 ·subst ha
  rw [if_pos (.inl rfl)]
  go_enter Try.func103, Try.ntmps103
  go_wp2
  go_ret
  exact ⟨rfl, rfl⟩
 by_cases hb : b = 0
 ·subst hb
  rw [if_pos (.inr rfl)]
  go_enter Try.func103, Try.ntmps103
  go_wp2
  go_ret
  exact ⟨rfl, rfl⟩
 ·rw [if_neg (by omega)]
  have e1 : (a == 0) = false := by simp [ha]
  have e2 : (b == 0) = false := by simp [hb]
  obtain ⟨m, hm⟩ : ∃ m, max a b = m := ⟨_, rfl⟩
  have hm1 : m ≤ 17 := by omega
  have hm0 : 0 ≤ m := by omega
  rw [hm]
  go_enter Try.func103, Try.ntmps103
  go_wp2
  go_ret
  exact ⟨rfl, rfl⟩

theorem product_calls (a b : Int) (h0 : 0 ≤ a) (h1 : a ≤ 17) (h2 : 0 ≤ b) (h3 : b ≤ 17) (w : World) :
  Calls Try.prog 104 #[.int .i64 a, .int .i64 b] w fun e w' => e = .returned (.int .i64 (if a = 0 ∨ b = 0 then 0 else a + b)) ∧ w' = w := by
 by_cases ha : a = 0
 ·rw [if_pos (.inl ha)]
  go_enter Try.func104, Try.ntmps104
  go_wp2
  go_ret
  exact ⟨rfl, rfl⟩
 by_cases hb : b = 0
 ·rw [if_pos (.inr hb)]
  go_enter Try.func104, Try.ntmps104
  go_wp2
  go_ret
  exact ⟨rfl, rfl⟩
 ·rw [if_neg (by omega)]
  have e1 : (a == 0) = false := by simp [ha]
  have e2 : (b == 0) = false := by simp [hb]
  go_enter Try.func104, Try.ntmps104
  go_wp2
  go_ret
  exact ⟨rfl, rfl⟩

/-- What opBits answers: it may be beyond 17. -/
def opR (op a b : Int) : Int :=
 if op = 1 then (if a = 0 ∨ b = 0 then max a b else max a b + 1)
 else if op = 3 then (if a = 0 ∨ b = 0 then 0 else a + b)
 else if op = 4 then min a b
 else if op = 5 ∨ op = 6 then max a b
 else if op = 8 ∨ op = 9 ∨ op = 10 then a
 else 17

theorem opR_opB (op : Int) {a b : Int} (h0 : 0 ≤ a) (h1 : a ≤ 17) (h2 : 0 ≤ b) (h3 : b ≤ 17) : bnd (opR op a b) = opB op a b := by
 unfold opR opB
 split
 ·split
  ·exact bnd_id (by omega) (by omega)
  ·rfl
 split
 ·split
  ·exact bnd_id (by omega) (by omega)
  ·rfl
 split
 ·exact bnd_id (by omega) (by omega)
 split
 ·exact bnd_id (by omega) (by omega)
 split
 ·exact bnd_id (by omega) (by omega)
 ·exact bnd_id (by omega) (by omega)

theorem opBits_1 (a b R : Int) (c : ∀ w : World, Calls Try.prog 103 #[.int .i64 a, .int .i64 b] w fun e w' => e = .returned (.int .i64 R) ∧ w' = w) (w : World) :
  Calls Try.prog 101 #[.int .i64 1, .int .i64 a, .int .i64 b] w fun e w' => e = .returned (.int .i64 R) ∧ w' = w := by
 go_enter Try.func101, Try.ntmps101
 go_wp2_with (fail)
 refine (c _).mono ?_
 rintro e w1 ⟨rfl, rfl⟩
 go_wp2
 go_ret
 exact ⟨rfl, rfl⟩

theorem opBits_3 (a b R : Int) (c : ∀ w : World, Calls Try.prog 104 #[.int .i64 a, .int .i64 b] w fun e w' => e = .returned (.int .i64 R) ∧ w' = w) (w : World) :
  Calls Try.prog 101 #[.int .i64 3, .int .i64 a, .int .i64 b] w fun e w' => e = .returned (.int .i64 R) ∧ w' = w := by
 go_enter Try.func101, Try.ntmps101
 go_wp2_with (fail)
 refine (c _).mono ?_
 rintro e w1 ⟨rfl, rfl⟩
 go_wp2
 go_ret
 exact ⟨rfl, rfl⟩

theorem opBits_4 (a b : Int) (w : World) :
  Calls Try.prog 101 #[.int .i64 4, .int .i64 a, .int .i64 b] w fun e w' => e = .returned (.int .i64 (min a b)) ∧ w' = w := by
 go_enter Try.func101, Try.ntmps101
 go_wp2
 go_ret
 exact ⟨rfl, rfl⟩

theorem opBits_5 (a b : Int) (w : World) :
  Calls Try.prog 101 #[.int .i64 5, .int .i64 a, .int .i64 b] w fun e w' => e = .returned (.int .i64 (max a b)) ∧ w' = w := by
 go_enter Try.func101, Try.ntmps101
 go_wp2
 go_ret
 exact ⟨rfl, rfl⟩

theorem opBits_6 (a b : Int) (w : World) :
  Calls Try.prog 101 #[.int .i64 6, .int .i64 a, .int .i64 b] w fun e w' => e = .returned (.int .i64 (max a b)) ∧ w' = w := by
 go_enter Try.func101, Try.ntmps101
 go_wp2
 go_ret
 exact ⟨rfl, rfl⟩

theorem opBits_8 (a b : Int) (w : World) :
  Calls Try.prog 101 #[.int .i64 8, .int .i64 a, .int .i64 b] w fun e w' => e = .returned (.int .i64 (a)) ∧ w' = w := by
 go_enter Try.func101, Try.ntmps101
 go_wp2
 go_ret
 exact ⟨rfl, rfl⟩

theorem opBits_9 (a b : Int) (w : World) :
  Calls Try.prog 101 #[.int .i64 9, .int .i64 a, .int .i64 b] w fun e w' => e = .returned (.int .i64 (a)) ∧ w' = w := by
 go_enter Try.func101, Try.ntmps101
 go_wp2
 go_ret
 exact ⟨rfl, rfl⟩

theorem opBits_10 (a b : Int) (w : World) :
  Calls Try.prog 101 #[.int .i64 10, .int .i64 a, .int .i64 b] w fun e w' => e = .returned (.int .i64 (a)) ∧ w' = w := by
 go_enter Try.func101, Try.ntmps101
 go_wp2
 go_ret
 exact ⟨rfl, rfl⟩

theorem opBits_other (op a b : Int) (h1 : ¬ op = 1) (h3 : ¬ op = 3) (h4 : ¬ op = 4) (h5 : ¬ op = 5) (h6 : ¬ op = 6) (h8 : ¬ op = 8) (h9 : ¬ op = 9) (h10 : ¬ op = 10) (w : World) :
  Calls Try.prog 101 #[.int .i64 op, .int .i64 a, .int .i64 b] w fun e w' => e = .returned (.int .i64 17) ∧ w' = w := by
 have e1 : (op == 1) = false := by simp [h1]
 have e3 : (op == 3) = false := by simp [h3]
 have e4 : (op == 4) = false := by simp [h4]
 have e5 : (op == 5) = false := by simp [h5]
 have e6 : (op == 6) = false := by simp [h6]
 have e8 : (op == 8) = false := by simp [h8]
 have e9 : (op == 9) = false := by simp [h9]
 have e10 : (op == 10) = false := by simp [h10]
 clear h1 h3 h4 h5 h6 h8 h9 h10
 go_enter Try.func101, Try.ntmps101
 go_wp2
 go_ret
 exact ⟨rfl, rfl⟩

theorem opBits_calls (op a b : Int) (h0 : 0 ≤ a) (h1 : a ≤ 17) (h2 : 0 ≤ b) (h3 : b ≤ 17) (w : World) :
  Calls Try.prog 101 #[.int .i64 op, .int .i64 a, .int .i64 b] w fun e w' => e = .returned (.int .i64 (opR op a b)) ∧ w' = w := by
 by_cases q1 : op = 1
 ·subst q1; exact opBits_1 a b _ (fun w => sum_calls a b h0 h1 h2 h3 w) w
 by_cases q3 : op = 3
 ·subst q3; exact opBits_3 a b _ (fun w => product_calls a b h0 h1 h2 h3 w) w
 by_cases q4 : op = 4
 ·subst q4; exact opBits_4 a b w
 by_cases q5 : op = 5
 ·subst q5; exact opBits_5 a b w
 by_cases q6 : op = 6
 ·subst q6; exact opBits_6 a b w
 by_cases q8 : op = 8
 ·subst q8; exact opBits_8 a b w
 by_cases q9 : op = 9
 ·subst q9; exact opBits_9 a b w
 by_cases q10 : op = 10
 ·subst q10; exact opBits_10 a b w
 ·rw [show opR op a b = 17 by unfold opR; rw [if_neg q1, if_neg q3, if_neg q4, if_neg (by omega), if_neg (by omega)]]
  exact opBits_other op a b q1 q3 q4 q5 q6 q8 q9 q10 w

theorem op_true (op a b x y z r : Int) (sb : Bool)
  (c1 : ∀ w : World, Calls Try.prog 99 #[.int .i64 a] w fun e w' => e = .returned (.int .i64 x) ∧ w' = w)
  (c2 : ∀ w : World, Calls Try.prog 99 #[.int .i64 b] w fun e w' => e = .returned (.int .i64 y) ∧ w' = w)
  (c3 : ∀ w : World, Calls Try.prog 101 #[.int .i64 op, .int .i64 x, .int .i64 y] w fun e w' => e = .returned (.int .i64 z) ∧ w' = w)
  (c4 : ∀ w : World, Calls Try.prog 99 #[.int .i64 z] w fun e w' => e = .returned (.int .i64 r) ∧ w' = w) (w : World) :
  Calls Try.prog 91 #[.int .i64 op, kn a true, kn b sb] w fun e w' => e = .returned (kn r true) ∧ More w w' := by
 unfold kn
 obtain ⟨S, HS⟩ : ∃ S : World → Prop, Hid (∀ w', S w' ↔ Two w.heap.size a true b sb w') := ⟨_, fun _ => Iff.rfl⟩
 have k0 : ∀ i : { w' // S w' }, i.val.cell? ⟨w.heap.size, 0, none⟩ = some (.int .i64 a) := fun i => ((HS.out _).1 i.property).a0
 have k1 : ∀ i : { w' // S w' }, i.val.cell? ⟨w.heap.size, 1, none⟩ = some (.bool true) := fun i => ((HS.out _).1 i.property).a1
 have k2 : ∀ i : { w' // S w' }, i.val.cell? ⟨w.heap.size + 1, 0, none⟩ = some (.int .i64 b) := fun i => ((HS.out _).1 i.property).b0
 have k3 : ∀ i : { w' // S w' }, i.val.cell? ⟨w.heap.size + 1, 1, none⟩ = some (.bool sb) := fun i => ((HS.out _).1 i.property).b1
 obtain ⟨W, HW⟩ : ∃ W : World, Hid (W = ((w.alloc (.cells #[.int .i64 a, .bool true] 65)).alloc (.cells #[.int .i64 b, .bool sb] 65)).alloc (.cells #[.int .i64 0, .bool false] 65)) := ⟨_, rfl⟩
 have HS0 : S W.drew := (HS.out _).2 (by rw [HW.out]; constructor <;> go_simp)
 have hne : Nonempty { w' // S w' } := ⟨⟨_, HS0⟩⟩
 have HS1 : S W.drew.drew := (HS.out _).2 (by rw [HW.out]; constructor <;> go_simp)
 go_enter Try.func91, Try.ntmps91
 go_wp2_with (fail)
 rw [← HW.out]
 refine wp_region_ord (S := S) [(0, true), (1, true), (2, true), (4, true), (5, true), (3, false), (6, false), (7, false), (8, true)] (by kernel_rfl) (by kernel_rfl) (by kernel_rfl) HS0 ?_
 iterate 5 (refine wpOrd_take rfl (by kernel_rfl) (fun K hK => ?_); go_simp; refine hK _ _ ?_; clear hK K)
 refine wpOrd_busy rfl (by kernel_rfl) (fun K hK => ?_); go_simp
 refine (c1 _).mono ?_
 rintro e w1 ⟨rfl, rfl⟩
 go_simp
 refine hK _ _ HS0 ?_; clear hK K
 refine wpOrd_busy rfl (by kernel_rfl) (fun K hK => ?_); go_simp
 refine (c2 _).mono ?_
 rintro e w1 ⟨rfl, rfl⟩
 go_simp
 refine hK _ _ HS0 ?_; clear hK K
 refine wpOrd_busy rfl (by kernel_rfl) (fun K hK => ?_); go_simp
 refine (c3 _).mono ?_
 rintro e w1 ⟨rfl, rfl⟩
 go_simp
 refine hK _ _ HS0 ?_; clear hK K
 (refine wpOrd_take rfl (by kernel_rfl) (fun K hK => ?_); go_simp; refine hK _ _ ?_; clear hK K)
 refine wpOrd_done ?_
 go_wp2_with (fail)
 refine wp_region_ord (S := S) [(0, true), (2, true), (3, true), (1, false), (4, true), (5, true), (6, true), (7, true), (8, true), (9, false)] (by kernel_rfl) (by kernel_rfl) (by kernel_rfl) HS1 ?_
 iterate 3 (refine wpOrd_take rfl (by kernel_rfl) (fun K hK => ?_); go_simp; refine hK _ _ ?_; clear hK K)
 refine wpOrd_busy rfl (by kernel_rfl) (fun K hK => ?_); go_simp
 refine (c4 _).mono ?_
 rintro e w1 ⟨rfl, rfl⟩
 go_simp
 refine hK _ _ HS1 ?_; clear hK K
 (refine wpOrd_take rfl (by kernel_rfl) (fun K hK => ?_); go_simp; refine hK _ _ ?_; clear hK K)
 iterate 2 (refine wpOrd_skip rfl HS1 (by kernel_rfl) (by kernel_rfl) ?_)
 refine wpOrd_pickT rfl rfl (by kernel_rfl) rfl (fun K hK => ?_); go_simp; refine hK _ _ ?_; clear hK K
 (refine wpOrd_take rfl (by kernel_rfl) (fun K hK => ?_); go_simp; refine hK _ _ ?_; clear hK K)
 rw [HW.out]
 refine wpOrd_busy rfl (by kernel_rfl) (fun K hK => ?_); go_simp
 refine hK _ _ ((HS.out _).2 (by constructor <;> go_simp)) ?_; clear hK K
 refine wpOrd_done ?_
 clear HS1 k0 k1 k2 k3 hne HS0
 go_wp2
 exact bodyPost_ret (by simp [results, Try.results91, go_sem]) rfl ⟨rfl, ((((More.refl _).alloc _ _).alloc _ _).alloc _ _).drew.drew⟩

theorem op_false (op a b x y z r : Int) (sb : Bool)
  (c1 : ∀ w : World, Calls Try.prog 99 #[.int .i64 a] w fun e w' => e = .returned (.int .i64 x) ∧ w' = w)
  (c2 : ∀ w : World, Calls Try.prog 99 #[.int .i64 b] w fun e w' => e = .returned (.int .i64 y) ∧ w' = w)
  (c3 : ∀ w : World, Calls Try.prog 101 #[.int .i64 op, .int .i64 x, .int .i64 y] w fun e w' => e = .returned (.int .i64 z) ∧ w' = w)
  (c4 : ∀ w : World, Calls Try.prog 99 #[.int .i64 z] w fun e w' => e = .returned (.int .i64 r) ∧ w' = w) (w : World) :
  Calls Try.prog 91 #[.int .i64 op, kn a false, kn b sb] w fun e w' => e = .returned (kn r sb) ∧ More w w' := by
 unfold kn
 obtain ⟨S, HS⟩ : ∃ S : World → Prop, Hid (∀ w', S w' ↔ Two w.heap.size a false b sb w') := ⟨_, fun _ => Iff.rfl⟩
 have k0 : ∀ i : { w' // S w' }, i.val.cell? ⟨w.heap.size, 0, none⟩ = some (.int .i64 a) := fun i => ((HS.out _).1 i.property).a0
 have k1 : ∀ i : { w' // S w' }, i.val.cell? ⟨w.heap.size, 1, none⟩ = some (.bool false) := fun i => ((HS.out _).1 i.property).a1
 have k2 : ∀ i : { w' // S w' }, i.val.cell? ⟨w.heap.size + 1, 0, none⟩ = some (.int .i64 b) := fun i => ((HS.out _).1 i.property).b0
 have k3 : ∀ i : { w' // S w' }, i.val.cell? ⟨w.heap.size + 1, 1, none⟩ = some (.bool sb) := fun i => ((HS.out _).1 i.property).b1
 obtain ⟨W, HW⟩ : ∃ W : World, Hid (W = ((w.alloc (.cells #[.int .i64 a, .bool false] 65)).alloc (.cells #[.int .i64 b, .bool sb] 65)).alloc (.cells #[.int .i64 0, .bool false] 65)) := ⟨_, rfl⟩
 have HS0 : S W.drew := (HS.out _).2 (by rw [HW.out]; constructor <;> go_simp)
 have hne : Nonempty { w' // S w' } := ⟨⟨_, HS0⟩⟩
 have HS1 : S W.drew.drew := (HS.out _).2 (by rw [HW.out]; constructor <;> go_simp)
 go_enter Try.func91, Try.ntmps91
 go_wp2_with (fail)
 rw [← HW.out]
 refine wp_region_ord (S := S) [(0, true), (1, true), (2, true), (4, true), (5, true), (3, false), (6, false), (7, false), (8, true)] (by kernel_rfl) (by kernel_rfl) (by kernel_rfl) HS0 ?_
 iterate 5 (refine wpOrd_take rfl (by kernel_rfl) (fun K hK => ?_); go_simp; refine hK _ _ ?_; clear hK K)
 refine wpOrd_busy rfl (by kernel_rfl) (fun K hK => ?_); go_simp
 refine (c1 _).mono ?_
 rintro e w1 ⟨rfl, rfl⟩
 go_simp
 refine hK _ _ HS0 ?_; clear hK K
 refine wpOrd_busy rfl (by kernel_rfl) (fun K hK => ?_); go_simp
 refine (c2 _).mono ?_
 rintro e w1 ⟨rfl, rfl⟩
 go_simp
 refine hK _ _ HS0 ?_; clear hK K
 refine wpOrd_busy rfl (by kernel_rfl) (fun K hK => ?_); go_simp
 refine (c3 _).mono ?_
 rintro e w1 ⟨rfl, rfl⟩
 go_simp
 refine hK _ _ HS0 ?_; clear hK K
 (refine wpOrd_take rfl (by kernel_rfl) (fun K hK => ?_); go_simp; refine hK _ _ ?_; clear hK K)
 refine wpOrd_done ?_
 go_wp2_with (fail)
 refine wp_region_ord (S := S) [(0, true), (2, true), (3, true), (1, false), (4, true), (5, true), (6, true), (7, true), (8, true), (9, false)] (by kernel_rfl) (by kernel_rfl) (by kernel_rfl) HS1 ?_
 iterate 3 (refine wpOrd_take rfl (by kernel_rfl) (fun K hK => ?_); go_simp; refine hK _ _ ?_; clear hK K)
 refine wpOrd_busy rfl (by kernel_rfl) (fun K hK => ?_); go_simp
 refine (c4 _).mono ?_
 rintro e w1 ⟨rfl, rfl⟩
 go_simp
 refine hK _ _ HS1 ?_; clear hK K
 (refine wpOrd_take rfl (by kernel_rfl) (fun K hK => ?_); go_simp; refine hK _ _ ?_; clear hK K)
 iterate 2 (refine wpOrd_take rfl (by kernel_rfl) (fun K hK => ?_); go_simp; refine hK _ _ ?_; clear hK K)
 refine wpOrd_pickF rfl rfl (by kernel_rfl) rfl (fun K hK => ?_); go_simp; refine hK _ _ ?_; clear hK K
 (refine wpOrd_take rfl (by kernel_rfl) (fun K hK => ?_); go_simp; refine hK _ _ ?_; clear hK K)
 rw [HW.out]
 refine wpOrd_busy rfl (by kernel_rfl) (fun K hK => ?_); go_simp
 refine hK _ _ ((HS.out _).2 (by constructor <;> go_simp)) ?_; clear hK K
 refine wpOrd_done ?_
 clear HS1 k0 k1 k2 k3 hne HS0
 go_wp2
 exact bodyPost_ret (by simp [results, Try.results91, go_sem]) rfl ⟨rfl, ((((More.refl _).alloc _ _).alloc _ _).alloc _ _).drew.drew⟩

theorem known_op_calls (op a b : Int) (sa sb : Bool) (w : World) :
  Calls Try.prog 91 #[.int .i64 op, kn a sa, kn b sb] w fun e w' => e = .returned (kn (opB op (bnd a) (bnd b)) (sa || sb)) ∧ More w w' := by
 have ra := bnd_range a
 have rb := bnd_range b
 rw [← opR_opB op ra.1 ra.2 rb.1 rb.2]
 cases sa with
 | true => exact op_true op a b _ _ _ _ sb (bounded_calls a) (bounded_calls b) (fun w => opBits_calls op _ _ ra.1 ra.2 rb.1 rb.2 w) (bounded_calls _) w
 | false => exact op_false op a b _ _ _ _ sb (bounded_calls a) (bounded_calls b) (fun w => opBits_calls op _ _ ra.1 ra.2 rb.1 rb.2 w) (bounded_calls _) w

theorem kof_calls (n : Int) (w : World) :
  Calls Try.prog 88 #[.int .i64 n] w fun e w' => e = .returned (kn (fitI n) false) ∧ More w w' := by
 obtain ⟨x, hx⟩ : ∃ x, fitI n = x := ⟨_, rfl⟩
 have c1 : ∀ w : World, Calls Try.prog 100 #[.int .i64 n] w fun e w' => e = .returned (.int .i64 x) ∧ w' = w := fun w => hx ▸ fitting_calls n w
 rw [hx]
 clear hx
 unfold kn
 go_enter Try.func88, Try.ntmps88
 go_wp2_with (fail)
 refine (c1 _).mono ?_
 rintro e w1 ⟨rfl, rfl⟩
 go_wp2
 exact bodyPost_ret (by simp [results, Try.results88, go_sem]) rfl ⟨rfl, (More.refl _).alloc _ _⟩
end
section
open Go.RowKit
set_option linter.unusedVariables false
/-- A block that holds just this, and may be written. -/
def Blk (w : World) (n : Nat) (cs : Array Value) (T : TypeId) : Prop := w.heap[n]? = some (.cells cs T (0, 0))
theorem Blk.lt {w : World} {n : Nat} {cs : Array Value} {T : TypeId} (h : Blk w n cs T) : n < w.heap.size := by
 rcases Nat.lt_or_ge n w.heap.size with q | q
 ·exact q
 ·unfold Blk at h; simp [q] at h
theorem Blk.more {w w' : World} {n : Nat} {cs : Array Value} {T : TypeId} (m : More w w') (h : Blk w n cs T) : Blk w' n cs T := (m.block n h.lt).trans h
theorem Blk.cell {w : World} {n : Nat} {cs : Array Value} {T : TypeId} (h : Blk w n cs T) {j : Nat} {v : Value} (e : cs[j]? = some v) : w.cell? ⟨n, j, none⟩ = some v := by rw [cell_of_row _ _ _ _ _ _ h]; exact e
theorem Blk.frozen {w : World} {n : Nat} {cs : Array Value} {T : TypeId} (h : Blk w n cs T) (j : Nat) : w.frozen? ⟨n, j, none⟩ = false := frozen_of_row _ _ _ _ _ h
theorem Blk.last (w : World) (cs : Array Value) (T : TypeId) : Blk (w.alloc (.cells cs T)) w.heap.size cs T := heap_alloc_last _ _
theorem Blk.other {w : World} {n : Nat} {cs : Array Value} {T : TypeId} (h : Blk w n cs T) {b : Nat} (hb : b ≠ n) (o : Nat) (v : Value) : Blk (w.setCell ⟨b, o, none⟩ v) n cs T := (Below.heap_setCell _ _ _ _ (fun e => hb e.symm)).trans h

/-- What is known of the registers, one behind the other, in a row that may be written. -/
def KRow (w : World) (g : Nat) (s : KS) : Prop :=
 ∀ j, j < 8 → (w.cell? ⟨g, j * 2, none⟩ = some (.int .i64 (s j).b) ∧ w.cell? ⟨g, j * 2 + 1, none⟩ = some (.bool (s j).s)) ∧ w.frozen? ⟨g, j * 2, none⟩ = false ∧ w.frozen? ⟨g, j * 2 + 1, none⟩ = false

theorem KRow.lt {w : World} {g : Nat} {s : KS} (h : KRow w g s) : g < w.heap.size := cell_block (h 0 (by omega)).1.1
theorem KRow.more {w w' : World} {g : Nat} {s : KS} (m : More w w') (h : KRow w g s) : KRow w' g s := fun j hj => by
 have hb := m.block g h.lt
 have hf : ∀ o, w'.frozen? ⟨g, o, none⟩ = w.frozen? ⟨g, o, none⟩ := fun o => World.frozen?_of_block hb
 exact ⟨⟨m.cell (h j hj).1.1, m.cell (h j hj).1.2⟩, by rw [hf]; exact (h j hj).2.1, by rw [hf]; exact (h j hj).2.2⟩
theorem KRow.congr {w : World} {g : Nat} {s t : KS} (h : KRow w g s) (e : ∀ j, j < 8 → s j = t j) : KRow w g t := fun j hj => by rw [← e j hj]; exact h j hj
/-- A register is known anew. -/
theorem KRow.set {w : World} {g : Nat} {s : KS} (h : KRow w g s) (a : Int) (v : Kn) (ha : a.toNat < 8) :
  KRow ((w.setCell ⟨g, a.toNat * 2, none⟩ (.int .i64 v.b)).setCell ⟨g, a.toNat * 2 + 1, none⟩ (.bool v.s)) g (setK s a v) := fun j hj => by
 have hj' := h j hj
 have haa := h _ ha
 refine ⟨?_, by rw [World.frozen?_setCell, World.frozen?_setCell]; exact hj'.2.1, by rw [World.frozen?_setCell, World.frozen?_setCell]; exact hj'.2.2⟩
 unfold setK
 by_cases e : j = a.toNat
 ·subst e
  rw [if_pos rfl]
  refine ⟨?_, ?_⟩
  ·rw [World.cell?_setCell_other _ _ _ _ (by simp)]
   exact World.cell?_setCell_same _ _ _ haa.1.1
  ·have q : (w.setCell ⟨g, a.toNat * 2, none⟩ (.int .i64 v.b)).cell? ⟨g, a.toNat * 2 + 1, none⟩ = some (.bool (s a.toNat).s) := by
    rw [World.cell?_setCell_other _ _ _ _ (by simp)]; exact haa.1.2
   exact World.cell?_setCell_same _ _ _ q
 ·rw [if_neg e]
  refine ⟨?_, ?_⟩
  ·rw [World.cell?_setCell_other _ _ _ _ (by intro e'; simp only [Addr.mk.injEq] at e'; omega), World.cell?_setCell_other _ _ _ _ (by intro e'; simp only [Addr.mk.injEq] at e'; omega)]; exact hj'.1.1
  ·rw [World.cell?_setCell_other _ _ _ _ (by intro e'; simp only [Addr.mk.injEq] at e'; omega), World.cell?_setCell_other _ _ _ _ (by intro e'; simp only [Addr.mk.injEq] at e'; omega)]; exact hj'.1.2
/-- Stores elsewhere. -/
theorem KRow.other {w : World} {g : Nat} {s : KS} (h : KRow w g s) {b : Nat} (hb : b ≠ g) (o : Nat) (v : Value) : KRow (w.setCell ⟨b, o, none⟩ v) g s := fun j hj =>
 ⟨⟨by rw [World.cell?_setCell_other _ _ _ _ (by intro e; simp only [Addr.mk.injEq] at e; omega)]; exact (h j hj).1.1, by rw [World.cell?_setCell_other _ _ _ _ (by intro e; simp only [Addr.mk.injEq] at e; omega)]; exact (h j hj).1.2⟩,
  by rw [World.frozen?_setCell]; exact (h j hj).2.1, by rw [World.frozen?_setCell]; exact (h j hj).2.2⟩

/-- The cells of such a row. -/
def flatK (s : KS) : Nat → List Value
 | 0 => []
 | n + 1 => flatK s n ++ [.int .i64 (s n).b, .bool (s n).s]
theorem flatK_length (s : KS) : ∀ n, (flatK s n).length = n * 2
 | 0 => rfl
 | n + 1 => by rw [flatK, List.length_append, flatK_length s n]; simp; omega
theorem flatK_at (s : KS) : ∀ n j, j < n → (flatK s n)[j * 2]? = some (.int .i64 (s j).b) ∧ (flatK s n)[j * 2 + 1]? = some (.bool (s j).s)
 | 0, j, h => absurd h (Nat.not_lt_zero _)
 | n + 1, j, h => by
  rw [flatK]
  by_cases e : j = n
  ·subst e
   rw [List.getElem?_append_right (by rw [flatK_length]; omega), List.getElem?_append_right (by rw [flatK_length]; omega), flatK_length]
   simp
  ·rw [List.getElem?_append_left (by rw [flatK_length]; omega), List.getElem?_append_left (by rw [flatK_length]; omega)]
   exact flatK_at s n j (by omega)
theorem flatK_one (s : KS) : ∀ n, ∀ u ∈ flatK s n, u.oneCell' = true
 | 0, u, h => by simp [flatK] at h
 | n + 1, u, h => by
  rw [flatK, List.mem_append] at h
  rcases h with h | h
  ·exact flatK_one s n u h
  ·simp at h; rcases h with rfl | rfl <;> rfl
theorem flatK_in {w : World} {g : Nat} {s : KS} (h : KRow w g s) : ∀ j u, (flatK s 8)[j]? = some u → w.cell? ((⟨g, 0, none⟩ : Addr).add j) = some u := by
 intro j u hu
 have hj : j < 16 := by have := (List.getElem?_eq_some_iff.1 hu).1; rw [flatK_length] at this; omega
 rw [Go.WideShapes.add_plain, Nat.zero_add]
 have hk := h (j / 2) (by omega)
 have hf := flatK_at s 8 (j / 2) (by omega)
 by_cases e : j % 2 = 0
 ·have e2 : j / 2 * 2 = j := by omega
  rw [e2] at hk hf
  rw [hf.1] at hu; rw [← Option.some.inj hu]; exact hk.1.1
 ·have e2 : j / 2 * 2 + 1 = j := by omega
  rw [e2] at hk hf
  rw [hf.2] at hu; rw [← Option.some.inj hu]; exact hk.1.2
theorem krow_of_own {w : World} {lo g c : Nat} {e : TypeId} {s : KS} (h : w.ownsRow lo e 2 (.slice (some ⟨g, 0, none⟩) 8 c) 8 (flatK s 8)) : KRow w g s := fun j hj => by
 have hf := flatK_at s 8 j hj
 exact ⟨⟨by rw [World.ownsRow.cellAt h (j * 2) (by omega)]; exact hf.1, by rw [World.ownsRow.cellAt h (j * 2 + 1) (by omega)]; exact hf.2⟩, World.ownsRow.frozenAt h _, World.ownsRow.frozenAt h _⟩
end
section
open Go.RowKit
/-- Something that can be watched. -/
structure Se where
 kind : Int
 a : Int
 b : Int

def SeesAt (w : World) (b o : Nat) (l : List Se) : Prop :=
 ∀ i s, l[i]? = some s → w.cell? ⟨b, o + i * 3, none⟩ = some (.int .i64 s.kind) ∧ w.cell? ⟨b, o + i * 3 + 1, none⟩ = some (.int .i64 s.a) ∧ w.cell? ⟨b, o + i * 3 + 2, none⟩ = some (.int .i64 s.b)
theorem SeesAt.more {w w' : World} (m : More w w') {b o : Nat} {l : List Se} (h : SeesAt w b o l) : SeesAt w' b o l :=
 fun i s hs => ⟨m.cell (h i s hs).1, m.cell (h i s hs).2.1, m.cell (h i s hs).2.2⟩

/-- A slice of what was shown. -/
def SeenAt (w : World) (v : Value) (l : List Se) : Prop :=
 ∃ (a : Option Addr) (b o c : Nat), v = .slice a l.length c ∧ (0 < l.length → a = some ⟨b, o, none⟩) ∧ SeesAt w b o l ∧ l.length < 4611686018427387904
theorem SeenAt.more {w w' : World} (m : More w w') {v : Value} {l : List Se} (h : SeenAt w v l) : SeenAt w' v l := by
 obtain ⟨a, b, o, c, e, h1, h2, h3⟩ := h
 exact ⟨a, b, o, c, e, h1, h2.more m, h3⟩

/-- A memory: so many lists, so long, of these words. -/
structure Mem where
 ml : Nat
 len : Nat → Nat
 wd : Nat → Nat → Int
/-- Where a memory lies. -/
structure MLoc where
 ma : Option Addr
 mb : Nat
 mo : Nat
 mc : Nat
 A : Nat → Option Addr
 C : Nat → Nat
 gb : Nat → Nat
 go : Nat → Nat

structure MIn (w : World) (m : Mem) (l : MLoc) : Prop where
 hm : 0 < m.ml → l.ma = some ⟨l.mb, l.mo, none⟩
 lists : ListsAt w l.mb l.mo m.ml l.A m.len l.C
 hg : ∀ i, i < m.ml → 0 < m.len i → l.A i = some ⟨l.gb i, l.go i, none⟩
 words : ∀ i, i < m.ml → ∀ j, j < m.len i → w.cell? ⟨l.gb i, l.go i + j, none⟩ = some (.int .i64 (m.wd i j))
 fitl : m.ml < 4611686018427387904
 fitw : ∀ i, i < m.ml → m.len i < 4611686018427387904
theorem MIn.more {w w' : World} (m : More w w') {x : Mem} {l : MLoc} (h : MIn w x l) : MIn w' x l :=
 ⟨h.hm, h.lists.more m, h.hg, fun i hi j hj => m.cell (h.words i hi j hj), h.fitl, h.fitw⟩

/-- The same words. -/
structure Mem.Like (x y : Mem) : Prop where
 ml : x.ml = y.ml
 len : ∀ i, i < x.ml → x.len i = y.len i
 wd : ∀ i, i < x.ml → ∀ j, j < x.len i → x.wd i j = y.wd i j

/-- What a run shows. -/
structure Sh where
 fin : Int
 val : Int
 steps : Int
 seen : List Se
 mem : Mem

def ShownAt (w : World) (v : Value) (x : Sh) : Prop :=
 ∃ (sv : Value) (l : MLoc), v = .agg #[.int .i64 x.fin, .int .i64 x.val, .int .i64 x.steps, sv, .slice l.ma x.mem.ml l.mc] ∧ SeenAt w sv x.seen ∧ MIn w x.mem l
theorem ShownAt.more {w w' : World} (m : More w w') {v : Value} {x : Sh} (h : ShownAt w v x) : ShownAt w' v x := by
 obtain ⟨sv, l, e, h1, h2⟩ := h
 exact ⟨sv, l, e, h1.more m, h2.more m⟩
def B64 (x : Int) : Prop := -9223372036854775808 ≤ x ∧ x ≤ 9223372036854775807
theorem B64_wrap (x : Int) : B64 (wrap64 x) := by unfold B64 wrap64; omega
theorem B64_zero : B64 0 := by unfold B64; omega

def setR (r : Nat → Int) (a v : Int) : Nat → Int := fun j => if j = a.toNat then v else r j
def setW (m : Mem) (c i : Nat) (v : Int) : Mem := ⟨m.ml, m.len, fun x y => if x = c ∧ y = i then v else m.wd x y⟩

/-- How many words the regions ahead of one have. -/
def baseI (log : Nat → Int) : Nat → Int
 | 0 => 0
 | k + 1 => baseI log k + wordsI (log k)

/-- An instruction of registers alone: the registers behind it, and what it shows beside its step. -/
def regsI (r : Nat → Int) (i : Ins) : (Nat → Int) × List Se :=
 if i.op = 1 then (setR r i.a i.n, [])
 else if i.op = 2 then (setR r i.a (r i.b.toNat), [])
 else if i.op = 10 then (setR r i.a (wrap64 (r i.b.toNat + i.n)), [])
 else if i.op = 11 then (if r i.a.toNat < 0 ∨ i.n ≤ r i.a.toNat then setR r i.a 0 else r, [])
 else if i.op = 12 then (r, [])
 else (setR r i.a (opI (i.op - 20) (r i.b.toNat) (r i.c.toNat)), if i.op = 29 ∨ i.op = 30 then [⟨3, r i.b.toNat, r i.c.toNat⟩] else [])

def putI (i : Ins) : Int := if i.op = 3 ∨ i.op = 5 then 0 else if i.op = 4 ∨ i.op = 6 then 1 else -1
def idxI (r : Nat → Int) (i : Ins) : Int := if i.op = 5 ∨ i.op = 6 then i.n else wrap64 (r i.b.toNat + i.n)

/-- Where a run stands. -/
structure St where
 at_ : Nat
 r : Nat → Int
 m : Mem
 seen : List Se

/-- One step of an instruction that is there: the state behind it; how the run ends with it, if it does, and its value. -/
def stepI (p : Prg) (s : St) : St × Option (Int × Int) :=
 if (p.ins s.at_).op = 7 then (⟨(p.ins s.at_).n.toNat, s.r, s.m, s.seen ++ [⟨1, s.at_, 0⟩]⟩, none)
 else if (p.ins s.at_).op = 8 then
  (⟨if holdsI (p.ins s.at_).c (s.r (p.ins s.at_).a.toNat) (s.r (p.ins s.at_).b.toNat) = true then (p.ins s.at_).n.toNat else s.at_ + 1, s.r, s.m, s.seen ++ [⟨1, s.at_, 0⟩]⟩, none)
 else if (p.ins s.at_).op = 9 then (⟨s.at_ + 1, s.r, s.m, s.seen ++ [⟨1, s.at_, 0⟩]⟩, some (1, s.r (p.ins s.at_).a.toNat))
 else if 0 ≤ putI (p.ins s.at_) then
  if idxI s.r (p.ins s.at_) < 0 ∨ (s.m.len (p.ins s.at_).c.toNat : Int) ≤ idxI s.r (p.ins s.at_) then (⟨s.at_ + 1, s.r, s.m, s.seen ++ [⟨1, s.at_, 0⟩]⟩, some (2, 0))
  else if putI (p.ins s.at_) = 1 then
   (⟨s.at_ + 1, s.r, setW s.m (p.ins s.at_).c.toNat (idxI s.r (p.ins s.at_)).toNat (s.r (p.ins s.at_).a.toNat),
    s.seen ++ [⟨1, s.at_, 0⟩] ++ [⟨2, baseI p.log (p.ins s.at_).c.toNat + idxI s.r (p.ins s.at_), 1⟩]⟩, none)
  else
   (⟨s.at_ + 1, setR s.r (p.ins s.at_).a (s.m.wd (p.ins s.at_).c.toNat (idxI s.r (p.ins s.at_)).toNat), s.m,
    s.seen ++ [⟨1, s.at_, 0⟩] ++ [⟨2, baseI p.log (p.ins s.at_).c.toNat + idxI s.r (p.ins s.at_), 0⟩]⟩, none)
 else (⟨s.at_ + 1, (regsI s.r (p.ins s.at_)).1, s.m, s.seen ++ [⟨1, s.at_, 0⟩] ++ (regsI s.r (p.ins s.at_)).2⟩, none)

/-- So many steps more, behind k of them. -/
def runI (p : Prg) : Nat → Nat → St → Sh
 | 0, k, s => ⟨0, 0, k, s.seen, s.m⟩
 | f + 1, k, s =>
  if p.cl ≤ s.at_ then ⟨2, 0, k, s.seen, s.m⟩
  else match (stepI p s).2 with
   | some e => ⟨e.1, e.2, (k : Int) + 1, (stepI p s).1.seen, (stepI p s).1.m⟩
   | none => runI p f (k + 1) (stepI p s).1

/-- The run, from the first instruction on. -/
def playI (p : Prg) (m : Mem) (fuel : Nat) : Sh := runI p fuel 0 ⟨0, fun _ => 0, m, []⟩

def RegsR (w : World) (g : Nat) (r : Nat → Int) : Prop := ∀ j, j < 10 → w.cell? ⟨g, j, none⟩ = some (.int .i64 (r j)) ∧ w.frozen? ⟨g, j, none⟩ = false

theorem frozen_kept {w w' : World} {row : Option Nat} (hg : w.grownBy w' row) {a : Addr} {v : Value} (h : w.cell? a = some v) (hne : some a.block ≠ row) : w'.frozen? a = w.frozen? a :=
 World.frozen?_of_block (hg.block a.block (cell_block h) hne)
theorem RegsR.kept {w w' : World} {row : Option Nat} (hg : w.grownBy w' row) {g : Nat} {r : Nat → Int} (h : RegsR w g r) (hne : some g ≠ row) : RegsR w' g r :=
 fun j hj => ⟨hg.cell (h j hj).1 hne, (frozen_kept hg (h j hj).1 hne).trans (h j hj).2⟩
theorem grown_drew (w : World) (row : Option Nat) : w.grownBy w.drew row := ⟨rfl, rfl, rfl, Nat.le_refl _, fun _ _ _ => rfl⟩
theorem grown_refl (w : World) (row : Option Nat) : w.grownBy w row := ⟨rfl, rfl, rfl, Nat.le_refl _, fun _ _ _ => rfl⟩
theorem grown_set (w : World) (g o : Nat) (v : Value) : w.grownBy (w.setCell ⟨g, o, none⟩ v) (some g) :=
 ⟨rfl, rfl, rfl, by simp [World.setCell], fun k _ hne => Below.heap_setCell _ _ _ _ (by simpa using hne)⟩
theorem grown_trans {a b c : World} {row : Option Nat} (h : a.grownBy b row) (k : b.grownBy c row) : a.grownBy c row :=
 ⟨k.os.trans h.os, k.tape.trans h.tape, k.output.trans h.output, Nat.le_trans h.size k.size, fun i hi hne => (k.block i (Nat.lt_of_lt_of_le hi h.size) hne).trans (h.block i hi hne)⟩
theorem More.grow {w w' : World} (h : More w w') (row : Option Nat) : w.grownBy w' row := ⟨Below.os h, Below.tape h, Below.output h, Below.size h, fun k hk _ => Below.block h k hk⟩

theorem RegsR.set {w : World} {g : Nat} {r : Nat → Int} (h : RegsR w g r) (a v : Int) : RegsR (w.setCell ⟨g, a.toNat, none⟩ (.int .i64 v)) g (setR r a v) := by
 intro j hj
 refine ⟨?_, by rw [World.frozen?_setCell]; exact (h j hj).2⟩
 unfold setR
 by_cases e : j = a.toNat
 ·subst e
  rw [if_pos rfl]
  exact World.cell?_setCell_same _ _ _ (h _ hj).1
 ·rw [if_neg e, World.cell?_setCell_other _ _ _ _ (by simp <;> omega)]
  exact (h j hj).1

theorem RegsR.alloc {w : World} {g : Nat} {r : Nat → Int} (h : RegsR w g r) (c : Array Value) (t : TypeId) : RegsR (w.alloc (.cells c t)) g r := h.kept (World.grownBy_alloc w _ none) (by simp)
theorem RegsR.drew {w : World} {g : Nat} {r : Nat → Int} (h : RegsR w g r) : RegsR w.drew g r := h
theorem RegsR.more {w w' : World} (m : More w w') {g : Nat} {r : Nat → Int} (h : RegsR w g r) : RegsR w' g r := h.kept (m.grow none) (by simp)
theorem gr_alloc {w w1 : World} {row : Option Nat} (h : w.grownBy w1 row) (o : Obj) : w.grownBy (w1.alloc o) row := grown_trans h (World.grownBy_alloc w1 o row)
theorem gr_drew {w w1 : World} {row : Option Nat} (h : w.grownBy w1 row) : w.grownBy w1.drew row := grown_trans h (grown_drew w1 row)
theorem gr_set {w w1 : World} {g : Nat} (h : w.grownBy w1 (some g)) (o : Nat) (v : Value) : w.grownBy (w1.setCell ⟨g, o, none⟩ v) (some g) := grown_trans h (grown_set w1 g o v)
theorem gr_more {w w1 w2 : World} {row : Option Nat} (h : w.grownBy w1 row) (m : More w1 w2) : w.grownBy w2 row := grown_trans h (m.grow row)
theorem wrapEq (x : Int) : IntKind.i64.wrap x = wrap64 x := by rw [IntKind.wrap_i64]; unfold wrap64; omega
end
section
open Go.RowKit
set_option linter.unusedSimpArgs false
set_option linter.unusedVariables false
def kv (s : KS) : Array Value := (flatK s 8).toArray
theorem kv_size (s : KS) : (kv s).size = 16 := by simp [kv, flatK_length]
theorem kv_at (s : KS) (j : Nat) (h : j < 8) : (kv s)[j * 2]? = some (.int .i64 (s j).b) ∧ (kv s)[j * 2 + 1]? = some (.bool (s j).s) := by
 simpa [kv] using flatK_at s 8 j h
theorem kv_one (s : KS) : (kv s).all (·.oneCell') = true := by
 unfold kv
 rw [List.all_toArray, List.all_eq_true]
 exact flatK_one s 8
theorem kv_ext {s t : KS} : (∀ j, j < 8 → s j = t j) → kv s = kv t := by
 intro h
 have : ∀ n, n ≤ 8 → flatK s n = flatK t n := by
  intro n
  induction n with
  | zero => intro _; rfl
  | succ n ih => intro hn; rw [flatK, flatK, ih (by omega), h n (by omega)]
 unfold kv
 rw [this 8 (Nat.le_refl _)]
theorem kv_is {c : Array Value} {s : KS} (hs : c.size = 16) (h : ∀ j, j < 8 → c[j * 2]? = some (.int .i64 (s j).b) ∧ c[j * 2 + 1]? = some (.bool (s j).s)) : c = kv s := by
 apply Array.ext_getElem?
 intro j
 by_cases e : j < 16
 ·have h1 := h (j / 2) (by omega)
  have h2 := kv_at s (j / 2) (by omega)
  by_cases e2 : j % 2 = 0
  ·have e3 : j / 2 * 2 = j := by omega
   rw [e3] at h1 h2
   rw [h1.1, h2.1]
  ·have e3 : j / 2 * 2 + 1 = j := by omega
   rw [e3] at h1 h2
   rw [h1.2, h2.2]
 ·rw [Array.getElem?_eq_none (by omega), Array.getElem?_eq_none (by rw [kv_size]; omega)]
theorem kv_set (s : KS) (a : Int) (b : Int) (t : Bool) (ha : a.toNat < 8) : ((kv s).setIfInBounds (a.toNat * 2) (.int .i64 b)).setIfInBounds (a.toNat * 2 + 1) (.bool t) = kv (setK s a ⟨b, t⟩) := by
 refine kv_is (by simp [kv_size]) (fun j hj => ?_)
 have hk := kv_at s j hj
 have hz := kv_size s
 unfold setK
 by_cases e : j = a.toNat
 ·subst e
  rw [if_pos rfl]
  refine ⟨?_, ?_⟩
  ·rw [Array.getElem?_setIfInBounds_ne (by omega), Array.getElem?_setIfInBounds_self_of_lt (by omega)]
  ·rw [Array.getElem?_setIfInBounds_self_of_lt (by simp; omega)]
 ·rw [if_neg e]
  refine ⟨?_, ?_⟩
  ·rw [Array.getElem?_setIfInBounds_ne (by omega), Array.getElem?_setIfInBounds_ne (by omega)]; exact hk.1
  ·rw [Array.getElem?_setIfInBounds_ne (by omega), Array.getElem?_setIfInBounds_ne (by omega)]; exact hk.2

theorem Blk.set {w : World} {n : Nat} {c : Array Value} {T : TypeId} (h : Blk w n c T) (o : Nat) (v : Value) : Blk (w.setCell ⟨n, o, none⟩ v) n (c.setIfInBounds o v) T := by
 unfold Blk at *
 rw [setCell_eq_setRow w n o c T (0, 0) v h]
 exact setRow_heap w n c _ T _ h
/-- A register in a box is known anew. -/
theorem Blk.setK {w : World} {n : Nat} {s : KS} {T : TypeId} (h : Blk w n (kv s) T) (a b : Int) (t : Bool) (ha : a.toNat < 8) :
  Blk ((w.setCell ⟨n, a.toNat * 2, none⟩ (.int .i64 b)).setCell ⟨n, a.toNat * 2 + 1, none⟩ (.bool t)) n (kv (setK s a ⟨b, t⟩)) T := by
 rw [← kv_set s a b t ha]
 exact (h.set _ _).set _ _
theorem Blk.alloc {w : World} {n : Nat} {c : Array Value} {T : TypeId} (h : Blk w n c T) (d : Array Value) (U : TypeId) : Blk (w.alloc (.cells d U)) n c T := h.more ((More.refl _).alloc _ _)
/-- Blocks of two types are two. -/
theorem Blk.ne {w : World} {n m : Nat} {c d : Array Value} {T U : TypeId} (h : Blk w n c T) (k : Blk w m d U) (hne : T ≠ U) : n ≠ m := by
 rintro rfl
 unfold Blk at h k
 rw [h] at k
 simp only [Option.some.injEq, Obj.cells.injEq] at k
 exact hne k.2.1

theorem run_load_part {P : Program} (w : World) (g o : Nat) (ty : TypeId) (cs : Array Value) (d : TypeDesc) (hc : ∀ j v, cs[j]? = some v → w.cell? ⟨g, o + j, none⟩ = some v)
  (hu : P.underlying ty = some d) (hd : (match d with | .struct _ | .array _ _ => true | _ => false) = true) (hi : (P.info? ty).map (·.size) = some cs.size) :
  (loadVar ty ⟨g, o, none⟩).run P w = .ok (.agg cs) w := by
 have hl : (loadCells ⟨g, o, none⟩ cs.size).run P w = .ok cs w := by
  have := run_loadCells_list (P := P) w ⟨g, o, none⟩ cs.toList (fun j v hv => by rw [Go.WideShapes.add_plain]; exact hc j v (by simpa using hv))
  simpa using this
 cases hq : P.info? ty with
 | none => simp [hq] at hi
 | some i =>
  have hs : i.size = cs.size := by simpa [hq] using hi
  have hagg : (isAgg ty).run P w = .ok true w := by
   unfold isAgg
   rw [Sem.run_bind, run_underlying hu w]
   cases d <;> simp_all
  simp [loadVar, Sem.run_bind, hagg, sizeOf, typeInfo, hq, hs, hl]

theorem exec_load_part {P : Program} {o : Oper} {a : Act} {w : World} (ty : TypeId) (x : Operand) (ho : o.op = .load ty x)
  (g k : Nat) (hx : a.eval x = .pointer (some ⟨g, k, none⟩)) (cs : Array Value) (d : TypeDesc) (hc : ∀ j v, cs[j]? = some v → w.cell? ⟨g, k + j, none⟩ = some v)
  (hu : P.underlying ty = some d) (hd : (match d with | .struct _ | .array _ _ => true | _ => false) = true) (hi : (P.info? ty).map (·.size) = some cs.size) :
  (execOp a.eval o).run P w = .ok (.value (.agg cs)) w := by
 unfold execOp
 simp only [ho, hx, Instr.loadAt, Instr.sureAddr, Sem.run_bind, Sem.run_pure, Result.andThen_ok, run_load_part w g k ty cs d hc hu hd hi]

theorem wp_load_part {P : Program} {o : Oper} {a : Act} {w : World} {K : Act → World → Prop} {Q : Exit → Act → World → Prop} (ty : TypeId) (x : Operand) (ho : o.op = .load ty x)
  (g k : Nat) (hx : a.eval x = .pointer (some ⟨g, k, none⟩)) (cs : Array Value) (d : TypeDesc) (hc : ∀ j v, cs[j]? = some v → w.cell? ⟨g, k + j, none⟩ = some v)
  (hu : P.underlying ty = some d) (hd : (match d with | .struct _ | .array _ _ => true | _ => false) = true) (hi : (P.info? ty).map (·.size) = some cs.size)
  (h : K (a.put o.dst (.agg cs)) w) : o.wp P a w K Q := by
 unfold Oper.wp execOp
 simp only [ho, hx, Instr.loadAt, Instr.sureAddr, Sem.run_bind, Sem.run_pure, Result.andThen_ok, run_load_part w g k ty cs d hc hu hd hi]
 exact h
theorem wpList_load_part {P : Program} {ops : Array Oper} {rest : List Oper} {o : Oper} {a : Act} {w : World} {Q : Exit → Act → World → Prop} (hgd : o.guard = none) (ty : TypeId) (x : Operand) (ho : o.op = .load ty x)
  (g k : Nat) (hx : a.eval x = .pointer (some ⟨g, k, none⟩)) (cs : Array Value) (d : TypeDesc) (hc : ∀ j v, cs[j]? = some v → w.cell? ⟨g, k + j, none⟩ = some v)
  (hu : P.underlying ty = some d) (hd : (match d with | .struct _ | .array _ _ => true | _ => false) = true) (hi : (P.info? ty).map (·.size) = some cs.size)
  (h : wpList P ops Q rest (a.put o.dst (.agg cs)) w) : wpList P ops Q (o :: rest) a w :=
 wpList_plain hgd fun _ hK => wp_load_part ty x ho g k hx cs d hc hu hd hi (hK _ _ h)

theorem run_store_part {P : Program} (w : World) (g o : Nat) (ty : TypeId) (cs : Array Value) (hi : (P.info? ty).map (·.size) = some cs.size) (hc : ∀ j, j < cs.size → (w.cell? ⟨g, o + j, none⟩).isSome = true ∧ w.frozen? ⟨g, o + j, none⟩ = false) (h1 : cs.all (·.oneCell') = true) :
  (storeVar ty ⟨g, o, none⟩ (.agg cs)).run P w = .ok () (w.setCells g o cs.toList) := by
 have hst := run_storeCells_cells (P := P) g o cs.toList 0 w (fun j hj => (hc j (by simpa using hj)).1) (fun j hj => (hc j (by simpa using hj)).2) (fun v hv => by
  obtain ⟨i, hi', rfl⟩ := List.getElem_of_mem hv
  have := Array.all_eq_true.1 h1 i (by simpa using hi')
  simpa using this)
 cases hq : P.info? ty with
 | none => simp [hq] at hi
 | some i =>
  have hs : cs.size = i.size := by simp [hq] at hi; omega
  simp [storeVar, sizeOf, typeInfo, hq, Value.cells, hs]
  simpa using hst
theorem wp_store_part {P : Program} {o : Oper} {a : Act} {w : World} {K : Act → World → Prop} {Q : Exit → Act → World → Prop} (ty : TypeId) (x y : Operand) (ho : o.op = .store ty x y)
  (g k : Nat) (cs : Array Value) (hx : a.eval x = .pointer (some ⟨g, k, none⟩)) (hy : a.eval y = .agg cs) (hi : (P.info? ty).map (·.size) = some cs.size) (hc : ∀ j, j < cs.size → (w.cell? ⟨g, k + j, none⟩).isSome = true ∧ w.frozen? ⟨g, k + j, none⟩ = false) (h1 : cs.all (·.oneCell') = true)
  (h : K (a.put o.dst undef) (w.setCells g k cs.toList)) : o.wp P a w K Q := by
 unfold Oper.wp execOp
 simp only [ho, hx, hy, Instr.storeAt, Instr.sureAddr, Sem.run_bind, Sem.run_pure, Result.andThen_ok, run_store_part w g k ty cs hi hc h1]
 exact h
theorem wpList_store_part {P : Program} {ops : Array Oper} {rest : List Oper} {o : Oper} {a : Act} {w : World} {Q : Exit → Act → World → Prop} (hgd : o.guard = none) (ty : TypeId) (x y : Operand) (ho : o.op = .store ty x y)
  (g k : Nat) (cs : Array Value) (hx : a.eval x = .pointer (some ⟨g, k, none⟩)) (hy : a.eval y = .agg cs) (hi : (P.info? ty).map (·.size) = some cs.size) (hc : ∀ j, j < cs.size → (w.cell? ⟨g, k + j, none⟩).isSome = true ∧ w.frozen? ⟨g, k + j, none⟩ = false) (h1 : cs.all (·.oneCell') = true)
  (h : wpList P ops Q rest (a.put o.dst undef) (w.setCells g k cs.toList)) : wpList P ops Q (o :: rest) a w :=
 wpList_plain hgd fun _ hK => wp_store_part ty x y ho g k cs hx hy hi hc h1 (hK _ _ h)

theorem setCells_row {g : Nat} {T : TypeId} : ∀ (vs : List Value) (o : Nat) (c : Array Value) (w : World), w.heap[g]? = some (.cells c T (0, 0)) → o + vs.length ≤ c.size →
  ∃ c', (w.setCells g o vs).heap[g]? = some (.cells c' T (0, 0)) ∧ c'.size = c.size ∧ ∀ j, c'[j]? = if o ≤ j ∧ j < o + vs.length then vs[j - o]? else c[j]?
 | [], o, c, w, h, _ => ⟨c, h, rfl, fun j => by rw [if_neg (by simp <;> omega)]⟩
 | v :: vs, o, c, w, h, hl => by
  simp only [List.length_cons] at hl
  have h1 : (w.setCell ⟨g, o, none⟩ v).heap[g]? = some (.cells (c.setIfInBounds o v) T (0, 0)) := by
   rw [setCell_eq_setRow w g o c T (0, 0) v h]
   exact setRow_heap w g c _ T _ h
  obtain ⟨c', k1, k2, k3⟩ := setCells_row vs (o + 1) _ _ h1 (by simp; omega)
  refine ⟨c', k1, by simpa using k2, fun j => ?_⟩
  rw [k3 j, Array.getElem?_setIfInBounds]
  simp only [List.length_cons]
  by_cases e : j = o
  ·subst e
   rw [if_neg (by omega), if_pos rfl, if_pos (by omega), if_pos (by omega)]
   simp
  ·by_cases e2 : o + 1 ≤ j ∧ j < o + 1 + vs.length
   ·rw [if_pos e2, if_pos (by omega), show j - o = (j - (o + 1)) + 1 by omega]
    simp
   ·rw [if_neg e2, if_neg (fun h => e h.symm), if_neg (by omega)]
theorem grown_setCells (M : Nat) : ∀ (vs : List Value) (o : Nat) (w : World), w.grownBy (w.setCells M o vs) (some M)
 | [], o, w => ⟨rfl, rfl, rfl, Nat.le_refl _, fun _ _ _ => rfl⟩
 | v :: vs, o, w => grown_trans (grown_set w M o v) (grown_setCells M vs (o + 1) _)

/-- A place as one value. -/
def pv (o : Option KS) : Array Value := (kv (o.getD zeroK)).push (.bool o.isSome)
theorem pv_size (o : Option KS) : (pv o).size = 17 := by simp [pv, kv_size]
theorem pv_one (o : Option KS) : (pv o).all (·.oneCell') = true := by
 unfold pv
 rw [Array.all_push, kv_one]
 rfl
theorem pv_last (o : Option KS) : (pv o)[16]? = some (.bool o.isSome) := by
 unfold pv
 rw [Array.getElem?_push, if_pos (by rw [kv_size])]
theorem pv_kv (s : KS) (j : Nat) (v : Value) (h : (kv s)[j]? = some v) : (pv (some s))[j]? = some v := by
 have hj : j < 16 := by have := (Array.getElem?_eq_some_iff.1 h).1; rwa [kv_size] at this
 unfold pv
 rw [Array.getElem?_push, if_neg (by rw [kv_size]; omega)]
 exact h

/-- The places lie one behind the other. -/
def PlS (w : World) (B cl : Nat) (l : KV) : Prop := ∃ c, Blk w B c 116 ∧ c.size = cl * 17 ∧ ∀ k j, k < cl → j < 17 → c[k * 17 + j]? = (pv (l k))[j]?

theorem PlS.block {w w' : World} {B cl : Nat} {l : KV} (h : PlS w B cl l) (e : w'.heap[B]? = w.heap[B]?) : PlS w' B cl l := by
 obtain ⟨c, h1, h2, h3⟩ := h
 exact ⟨c, e.trans h1, h2, h3⟩
theorem PlS.cells {w : World} {B cl : Nat} {l : KV} (h : PlS w B cl l) {k : Nat} (hk : k < cl) : ∀ j v, (pv (l k))[j]? = some v → w.cell? ⟨B, k * 17 + j, none⟩ = some v := by
 intro j v hv
 obtain ⟨c, h1, h2, h3⟩ := h
 have hj : j < 17 := by have := (Array.getElem?_eq_some_iff.1 hv).1; rwa [pv_size] at this
 exact h1.cell ((h3 k j hk hj).trans hv)
theorem PlS.regs {w : World} {B cl : Nat} {l : KV} (h : PlS w B cl l) {k : Nat} (hk : k < cl) {s : KS} (e : l k = some s) : ∀ j v, (kv s)[j]? = some v → w.cell? ⟨B, k * 17 + j, none⟩ = some v := by
 intro j v hv
 refine h.cells hk j v ?_
 rw [e]
 exact pv_kv s j v hv
theorem PlS.reached {w : World} {B cl : Nat} {l : KV} (h : PlS w B cl l) {k : Nat} (hk : k < cl) : w.cell? ⟨B, k * 17 + 16, none⟩ = some (.bool (l k).isSome) := h.cells hk 16 _ (pv_last _)
theorem PlS.free {w : World} {B cl : Nat} {l : KV} (h : PlS w B cl l) {k : Nat} (hk : k < cl) : ∀ j, j < 17 → (w.cell? ⟨B, k * 17 + j, none⟩).isSome = true ∧ w.frozen? ⟨B, k * 17 + j, none⟩ = false := by
 intro j hj
 obtain ⟨c, h1, h2, h3⟩ := h
 refine ⟨?_, h1.frozen _⟩
 have hs : j < (pv (l k)).size := by rw [pv_size]; exact hj
 rw [h1.cell ((h3 k j hk hj).trans (Array.getElem?_eq_getElem hs))]
 rfl
theorem PlS.put {w : World} {B cl : Nat} {l : KV} (h : PlS w B cl l) {k : Nat} (hk : k < cl) (s : KS) : PlS (w.setCells B (k * 17) (pv (some s)).toList) B cl (putV l k s) := by
 obtain ⟨c, h1, h2, h3⟩ := h
 obtain ⟨c', k1, k2, k3⟩ := setCells_row (T := 116) (pv (some s)).toList (k * 17) c w h1 (by rw [Array.length_toList, pv_size, h2]; omega)
 refine ⟨c', k1, k2.trans h2, fun m j hm hj => ?_⟩
 rw [k3, Array.length_toList, pv_size]
 by_cases e : m = k
 ·subst e
  rw [if_pos (by omega), putV_same]
  simp
 ·rw [putV_other _ e, if_neg (by omega)]
  exact h3 m j hm hj
theorem PlS.lt {w : World} {B cl : Nat} {l : KV} (h : PlS w B cl l) : B < w.heap.size := by
 obtain ⟨c, h1, _⟩ := h
 exact h1.lt

/-- What a checker's own memory is: itself, its places, and the numbers of those that are to be gone on from. -/
structure Ck (w0 : World) (p : Prg) (lo : Loc) (M B : Nat) (l : KV) (td : List Nat) (tv : Value) (w : World) : Prop where
 box : Blk w M #[.slice lo.ra p.rl lo.rc, .slice lo.ca p.cl lo.cc, .slice (some ⟨B, 0, none⟩) p.cl p.cl, tv] 90
 own : w.ownsRow w0.heap.size 3 1 tv td.length (td.map fun (k : Nat) => Value.int .i64 (k : Int))
 pl : PlS w B p.cl l
 up : More w0 w
 pin : PIn w0 p lo
 lo : w0.heap.size ≤ M ∧ w0.heap.size ≤ B

/-- Boxes of other types are left alone. -/
def Keeps (w w' : World) : Prop := ∀ n c T, T ≠ 90 → T ≠ 116 → T ≠ 3 → Blk w n c T → Blk w' n c T
theorem Keeps.trans {a b c : World} (h : Keeps a b) (k : Keeps b c) : Keeps a c := fun n d T h1 h2 h3 q => k n d T h1 h2 h3 (h n d T h1 h2 h3 q)
theorem Keeps.of {w w' : World} (m : More w w') : Keeps w w' := fun n c T _ _ _ q => q.more m

section
variable {w0 : World} {p : Prg} {lo : Loc} {M B : Nat} {l : KV} {td : List Nat} {tv : Value} {w : World}
theorem Ck.pinw (h : Ck w0 p lo M B l td tv w) : PIn w p lo := h.pin.more h.up
theorem Ck.plB (h : Ck w0 p lo M B l td tv w) : ∃ c, Blk w B c 116 := by obtain ⟨c, h1, _⟩ := h.pl; exact ⟨c, h1⟩
theorem Ck.ne (h : Ck w0 p lo M B l td tv w) : M ≠ B := by obtain ⟨c, h1⟩ := h.plB; exact h.box.ne h1 (by decide)
/-- The row of numbers is no box of another type. -/
theorem Ck.tne (h : Ck w0 p lo M B l td tv w) {n : Nat} {c : Array Value} {T : TypeId} (hb : Blk w n c T) (hT : T ≠ 3) : tv.ownBlock ≠ some n := by
 intro e
 rcases h.own.2 with ⟨rfl, _⟩ | ⟨g, cap, cur, rfl, _, hg, _⟩
 ·simp [Value.ownBlock] at e
 ·simp [Value.ownBlock] at e
  subst e
  unfold Blk at hb
  rw [hb] at hg
  simp only [Option.some.injEq, Obj.cells.injEq] at hg
  exact hT hg.2.1
theorem Ck.more (h : Ck w0 p lo M B l td tv w) {w' : World} (m : More w w') : Ck w0 p lo M B l td tv w' :=
 ⟨h.box.more m, h.own.kept (m.grow none) (by cases tv.ownBlock <;> simp), h.pl.block (m.block _ h.pl.lt), h.up.trans m, h.pin, h.lo⟩
/-- A place is known anew. -/
theorem Ck.put (h : Ck w0 p lo M B l td tv w) {k : Nat} (hk : k < p.cl) (s : KS) : Ck w0 p lo M B (putV l k s) td tv (w.setCells B (k * 17) (pv (some s)).toList) := by
 obtain ⟨c, hB⟩ := h.plB
 have g := grown_setCells B (pv (some s)).toList (k * 17) w
 refine ⟨(g.block M h.box.lt (fun e => h.ne (Option.some.inj e))).trans h.box, h.own.kept g (.inr (h.tne hB (by decide))), h.pl.put hk s, h.up.grownBy g (fun b hb => by have := Option.some.inj hb; have := h.lo.2; omega), h.pin, h.lo⟩
theorem Ck.put_keeps (h : Ck w0 p lo M B l td tv w) {k : Nat} (s : KS) : Keeps w (w.setCells B (k * 17) (pv (some s)).toList) := by
 intro n c T h1 h2 h3 q
 obtain ⟨d, hB⟩ := h.plB
 have g := grown_setCells B (pv (some s)).toList (k * 17) w
 exact (g.block n q.lt (fun e => q.ne hB h2 (Option.some.inj e))).trans q
/-- The numbers are others. -/
theorem Ck.set (h : Ck w0 p lo M B l td tv w) {td' : List Nat} {tv' : Value} {w' : World} (g : w.grownBy w' tv.ownBlock) (ho : w'.ownsRow w0.heap.size 3 1 tv' td'.length (td'.map fun (k : Nat) => Value.int .i64 (k : Int))) :
  Ck w0 p lo M B l td' tv' (w'.setCell ⟨M, 3, none⟩ tv') := by
 obtain ⟨c, hB⟩ := h.plB
 have hb : Blk w' M #[.slice lo.ra p.rl lo.rc, .slice lo.ca p.cl lo.cc, .slice (some ⟨B, 0, none⟩) p.cl p.cl, tv] 90 := (g.block M h.box.lt (fun e => h.tne h.box (by decide) e.symm)).trans h.box
 have hb' := hb.set 3 tv'
 have hpl : PlS w' B p.cl l := h.pl.block (g.block B h.pl.lt (fun e => h.tne hB (by decide) e.symm))
 have hup : More w0 w' := h.up.grownBy g (fun b hb => (h.own.lt b hb).1)
 have hM : tv'.ownBlock ≠ some M := by
  intro e
  rcases ho.2 with ⟨rfl, _⟩ | ⟨g', cap, cur, rfl, _, hg, _⟩
  ·simp [Value.ownBlock] at e
  ·simp [Value.ownBlock] at e
   subst e
   unfold Blk at hb
   rw [hb] at hg
   simp only [Option.some.injEq, Obj.cells.injEq] at hg
   exact absurd hg.2.1 (by decide)
 refine ⟨hb', ho.kept (grown_set w' M 3 tv') (.inr hM), hpl.block (Below.heap_setCell _ _ _ _ (fun e => h.ne e.symm)), hup.setCell h.lo.1 _, h.pin, h.lo⟩
theorem Ck.set_keeps (h : Ck w0 p lo M B l td tv w) {tv' : Value} {w' : World} (g : w.grownBy w' tv.ownBlock) : Keeps w (w'.setCell ⟨M, 3, none⟩ tv') := by
 intro n c T h1 h2 h3 q
 have q' : Blk w' n c T := (g.block n q.lt (fun e => h.tne q h3 e.symm)).trans q
 exact q'.other (fun e => by subst e; exact q.ne h.box h1 rfl) _ _
end
theorem sum_of (a n xb rb : Int) (sa xs rs : Bool)
  (c1 : ∀ w : World, Calls Try.prog 88 #[.int .i64 n] w fun e w' => e = .returned (.agg #[.int .i64 xb, .bool xs]) ∧ More w w')
  (c2 : ∀ w : World, Calls Try.prog 91 #[.int .i64 1, .agg #[.int .i64 a, .bool sa], .agg #[.int .i64 xb, .bool xs]] w fun e w' => e = .returned (.agg #[.int .i64 rb, .bool rs]) ∧ More w w') (w : World) :
  Calls Try.prog 89 #[.agg #[.int .i64 a, .bool sa], .int .i64 n] w fun e w' => e = .returned (.agg #[.int .i64 rb, .bool rs]) ∧ More w w' := by
 obtain ⟨S, HS⟩ : ∃ S : World → Prop, Hid (∀ w', S w' ↔ (Blk w' w.heap.size #[.int .i64 a, .bool sa] 65)) := ⟨_, fun _ => Iff.rfl⟩
 have k0 : ∀ i : { w' // S w' }, i.val.cell? ⟨w.heap.size, 0, none⟩ = some (.int .i64 a) := fun i => ((HS.out _).1 i.property).cell rfl
 have k1 : ∀ i : { w' // S w' }, i.val.cell? ⟨w.heap.size, 1, none⟩ = some (.bool sa) := fun i => ((HS.out _).1 i.property).cell rfl
 obtain ⟨W, HW⟩ : ∃ W : World, Hid (W = (w.alloc (.cells #[.int .i64 a, .bool sa] 65)).alloc (.cells #[.int .i64 0, .bool false] 65)) := ⟨_, rfl⟩
 have HB : Hid (Blk W w.heap.size #[.int .i64 a, .bool sa] 65 ∧ Blk W (w.heap.size + 1) #[.int .i64 0, .bool false] 65 ∧ More w W) := by
  rw [HW.out]
  exact ⟨(Blk.last _ _ _).alloc _ _, (by simpa using Blk.last (w.alloc (.cells #[.int .i64 a, .bool sa] 65)) #[.int .i64 0, .bool false] 65), ((More.refl _).alloc _ _).alloc _ _⟩
 have HS0 : S W.drew := (HS.out _).2 HB.out.1
 have hne : Nonempty { w' // S w' } := ⟨⟨_, HS0⟩⟩
 go_enter Try.func89, Try.ntmps89
 go_wp2_with (fail)
 rw [← HW.out]
 refine wp_region_ord (S := S) [(0, true), (1, true), (2, false), (3, false), (4, false)] (by kernel_rfl) (by kernel_rfl) (by kernel_rfl) HS0 ?_
 iterate 2 (refine wpOrd_take rfl (by kernel_rfl) (fun K hK => ?_); go_simp; refine hK _ _ ?_; clear hK K)
 refine wpOrd_busy rfl (by kernel_rfl) (fun K hK => ?_); go_simp
 refine (c1 _).mono ?_
 rintro e w1 ⟨rfl, m1⟩
 have Hm1 : Hid (More W w1) := (More.refl _).drew.trans m1
 have HS1 : S w1 := (HS.out _).2 (HB.out.1.more Hm1.out)
 clear m1
 go_simp
 refine hK _ _ HS1 ?_; clear hK K
 refine wpOrd_busy rfl (by kernel_rfl) (fun K hK => ?_); go_simp
 refine (c2 _).mono ?_
 rintro e w2 ⟨rfl, m2⟩
 have Hm2 : Hid (More W w2) := Hm1.out.trans m2
 have HS2 : S w2 := (HS.out _).2 (HB.out.1.more Hm2.out)
 clear m2
 go_simp
 refine hK _ _ HS2 ?_; clear hK K
 have HR : Hid (Blk w2 (w.heap.size + 1) #[.int .i64 0, .bool false] 65) := HB.out.2.1.more Hm2.out
 have t0 := HR.out.cell (j := 0) rfl
 have t1 := HR.out.cell (j := 1) rfl
 have u0 := HR.out.frozen 0
 have u1 := HR.out.frozen 1
 refine wpOrd_busy rfl (by kernel_rfl) (fun K hK => ?_); go_simp
 refine hK _ _ ((HS.out _).2 (((HB.out.1.more Hm2.out).other (by omega) _ _).other (by omega) _ _)) ?_; clear hK K
 refine wpOrd_done ?_
 clear k0 k1 hne HS0 HS1 HS2
 go_wp2
 refine bodyPost_ret (by simp [results, Try.results89, go_sem, *]) rfl ⟨rfl, ?_⟩
 exact ((HB.out.2.2.trans Hm2.out).setCell (by dsimp only; omega) _).setCell (by dsimp only; omega) _

theorem sum_k (k : Kn) (n : Int) (n0 : -9223372036854775808 ≤ n) (w : World) :
  Calls Try.prog 89 #[kn k.b k.s, .int .i64 n] w fun e w' => e = .returned (kn (Kn.index k n).b (Kn.index k n).s) ∧ More w w' := by
 rw [index_op k n n0]
 have c1 : ∀ w : World, Calls Try.prog 88 #[.int .i64 n] w fun e w' => e = .returned (kn (Kn.of n).b (Kn.of n).s) ∧ More w w' := fun w => kof_calls n w
 have c2 : ∀ w : World, Calls Try.prog 91 #[.int .i64 1, kn k.b k.s, kn (Kn.of n).b (Kn.of n).s] w fun e w' => e = .returned (kn (Kn.op 1 k (Kn.of n)).b (Kn.op 1 k (Kn.of n)).s) ∧ More w w' := fun w => known_op_calls 1 k.b (Kn.of n).b k.s (Kn.of n).s w
 obtain ⟨v, hv⟩ : ∃ v, Kn.op 1 k (Kn.of n) = v := ⟨_, rfl⟩
 obtain ⟨x, hx⟩ : ∃ x, Kn.of n = x := ⟨_, rfl⟩
 rw [hv] at c2 ⊢
 rw [hx] at c1 c2
 exact sum_of k.b n x.b v.b k.s x.s v.s c1 c2 w

theorem loaded_calls (lg : Int) (sec : Bool) (w : World) :
  Calls Try.prog 90 #[.agg #[.int .i64 lg, .bool sec]] w fun e w' => e = .returned (kn 17 sec) ∧ More w w' := by
 unfold kn
 go_enter Try.func90, Try.ntmps90
 go_wp2
 exact bodyPost_ret (by simp [results, Try.results90, go_sem]) rfl ⟨rfl, ((More.refl _).alloc _ _).alloc _ _⟩

/-- The condition that holds where another does not. -/
def oppI (c : Int) : Int := if c = 1 then 2 else if c = 2 then 1 else if c = 3 then 4 else 3
theorem opposite_calls (c : Int) (w : World) : Calls Try.prog 77 #[.int .i64 c] w fun e w' => e = .returned (.int .i64 (oppI c)) ∧ w' = w := by
 by_cases h1 : c = 1
 ·subst h1
  go_enter Try.func77, Try.ntmps77
  go_wp2
  go_ret
  exact ⟨rfl, rfl⟩
 by_cases h2 : c = 2
 ·subst h2
  go_enter Try.func77, Try.ntmps77
  go_wp2
  go_ret
  exact ⟨rfl, rfl⟩
 by_cases h3 : c = 3
 ·subst h3
  go_enter Try.func77, Try.ntmps77
  go_wp2
  go_ret
  exact ⟨rfl, rfl⟩
 ·have e1 : (c == 1) = false := by simp [h1]
  have e2 : (c == 2) = false := by simp [h2]
  have e3 : (c == 3) = false := by simp [h3]
  have ho : oppI c = 3 := by unfold oppI; rw [if_neg h1, if_neg h2, if_neg h3]
  rw [ho]
  clear ho
  go_enter Try.func77, Try.ntmps77
  go_wp2
  go_ret
  exact ⟨rfl, rfl⟩
end
end Go.Proofs.Ytmpafeoileonjaa
