/-
  Instructions as words of 32 bits, on plain data; no Go text in sight.
-/
import Derived.Test.YtifdalddchmlmaaMem
namespace Go.Proofs.Ytifdalddchmlmaa
open Go.RowKit
set_option linter.unusedVariables false

/-- The number of an instruction's word. -/
def encW (i : Ins) : Int := (((i.op * 16 + i.a) * 16 + i.b) * 16 + i.c) * 16384 + (if i.n < 0 then i.n + 16384 else i.n)
/-- The instruction of a word. -/
def decW (u : Int) : Ins := ⟨u / 16384 / 16 / 16 / 16, u / 16384 / 16 / 16 % 16, u / 16384 / 16 % 16, u / 16384 % 16, if 8192 ≤ u % 16384 then u % 16384 - 16384 else u % 16384⟩
/-- A number that fits a word. -/
def N14 (n : Int) : Prop := -8192 ≤ n ∧ n ≤ 8191
/-- A word. -/
def W32 (u : Int) : Prop := 0 ≤ u ∧ u < 4294967296
/-- Fields that fit a word, but for N. -/
structure Small (i : Ins) : Prop where
  op : 0 ≤ i.op ∧ i.op < 64
  a : 0 ≤ i.a ∧ i.a < 16
  b : 0 ≤ i.b ∧ i.b < 16
  c : 0 ≤ i.c ∧ i.c < 16

theorem small_of {rl : Nat} {log : Nat → Int} {cl : Nat} {i : Ins} (hrl : rl ≤ 6) (h : InsOk rl log cl 10 i) : Small i := by
  unfold InsOk Reg Rgn Plc Wrd at h
  by_cases h1 : i.op = 1
  · rw [if_pos h1] at h; exact ⟨by omega, by omega, by omega, by omega⟩
  rw [if_neg h1] at h
  by_cases h2 : i.op = 2
  · rw [if_pos h2] at h; exact ⟨by omega, by omega, by omega, by omega⟩
  rw [if_neg h2] at h
  by_cases h3 : i.op = 3
  · rw [if_pos h3] at h; exact ⟨by omega, by omega, by omega, by omega⟩
  rw [if_neg h3] at h
  by_cases h4 : i.op = 4
  · rw [if_pos h4] at h; exact ⟨by omega, by omega, by omega, by omega⟩
  rw [if_neg h4] at h
  by_cases h5 : i.op = 5
  · rw [if_pos h5] at h; exact ⟨by omega, by omega, by omega, by omega⟩
  rw [if_neg h5] at h
  by_cases h6 : i.op = 6
  · rw [if_pos h6] at h; exact ⟨by omega, by omega, by omega, by omega⟩
  rw [if_neg h6] at h
  by_cases h7 : i.op = 7
  · rw [if_pos h7] at h; exact ⟨by omega, by omega, by omega, by omega⟩
  rw [if_neg h7] at h
  by_cases h8 : i.op = 8
  · rw [if_pos h8] at h; exact ⟨by omega, by omega, by omega, by omega⟩
  rw [if_neg h8] at h
  by_cases h9 : i.op = 9
  · rw [if_pos h9] at h; exact ⟨by omega, by omega, by omega, by omega⟩
  rw [if_neg h9] at h
  by_cases h10 : i.op = 10
  · rw [if_pos h10] at h; exact ⟨by omega, by omega, by omega, by omega⟩
  rw [if_neg h10] at h
  by_cases h11 : i.op = 11
  · rw [if_pos h11] at h; exact ⟨by omega, by omega, by omega, by omega⟩
  rw [if_neg h11] at h
  by_cases h12 : i.op = 12
  · rw [if_pos h12] at h; exact ⟨by omega, by omega, by omega, by omega⟩
  rw [if_neg h12] at h
  exact ⟨by omega, by omega, by omega, by omega⟩

theorem enc_w32 {i : Ins} (s : Small i) (n : N14 i.n) : W32 (encW i) := by
  obtain ⟨h1, h2, h3, h4⟩ := s
  unfold N14 at n
  unfold W32 encW
  split <;> omega
theorem dec_enc {i : Ins} (s : Small i) (n : N14 i.n) : decW (encW i) = i := by
  obtain ⟨op, a, b, c, m⟩ := i
  obtain ⟨h1, h2, h3, h4⟩ := s
  unfold N14 at n
  dsimp only at h1 h2 h3 h4 n
  have e : ∃ r, 0 ≤ r ∧ r < 16384 ∧ (if m < 0 then m + 16384 else m) = r ∧ (if 8192 ≤ r then r - 16384 else r) = m := by
    by_cases hm : m < 0
    · exact ⟨m + 16384, by omega, by omega, by rw [if_pos hm], by rw [if_pos (by omega)]; omega⟩
    · exact ⟨m, by omega, by omega, by rw [if_neg hm], by rw [if_neg (by omega)]⟩
  obtain ⟨r, r0, r1, e1, e2⟩ := e
  unfold decW encW
  dsimp only
  rw [e1]
  have q1 : ((((op * 16 + a) * 16 + b) * 16 + c) * 16384 + r) / 16384 = ((op * 16 + a) * 16 + b) * 16 + c := by omega
  have q2 : ((((op * 16 + a) * 16 + b) * 16 + c) * 16384 + r) % 16384 = r := by omega
  have q3 : (((op * 16 + a) * 16 + b) * 16 + c) / 16 = (op * 16 + a) * 16 + b := by omega
  have q4 : (((op * 16 + a) * 16 + b) * 16 + c) % 16 = c := by omega
  have q5 : ((op * 16 + a) * 16 + b) / 16 = op * 16 + a := by omega
  have q6 : ((op * 16 + a) * 16 + b) % 16 = b := by omega
  have q7 : (op * 16 + a) / 16 = op := by omega
  have q8 : (op * 16 + a) % 16 = a := by omega
  rw [q2, e2, q1, q4, q3, q6, q5, q8, q7]
theorem dec_n14 (u : Int) : N14 (decW u).n := by
  unfold N14 decW
  dsimp only
  split <;> omega
theorem enc_dec {u : Int} (h : W32 u) : encW (decW u) = u := by
  unfold W32 at h
  have e : (if (if 8192 ≤ u % 16384 then u % 16384 - 16384 else u % 16384) < 0 then (if 8192 ≤ u % 16384 then u % 16384 - 16384 else u % 16384) + 16384 else (if 8192 ≤ u % 16384 then u % 16384 - 16384 else u % 16384)) = u % 16384 := by
    by_cases h1 : 8192 ≤ u % 16384
    · rw [if_pos h1, if_pos (by omega)]; omega
    · rw [if_neg h1, if_neg (by omega)]
  unfold encW decW
  dsimp only
  rw [e]
  omega

/-- What Put tells: what is wrong, or nothing. -/
def PutR (p : Prg) (f : Int × Int) : Prop :=
  (¬ p.Ok 8000 10 ∧ f = (2, 0)) ∨ (p.Ok 8000 10 ∧ ∃ k : Nat, k < p.cl ∧ (∀ j, j < k → N14 (p.ins j).n) ∧ ¬ N14 (p.ins k).n ∧ f = (3, (k : Int))) ∨ (p.Ok 8000 10 ∧ (∀ j, j < p.cl → N14 (p.ins j).n) ∧ f = (0, 0))
theorem PutR.one {p : Prg} {f g : Int × Int} (h : PutR p f) (k : PutR p g) : f = g := by
  rcases h with ⟨h1, rfl⟩ | ⟨h1, a, h2, h3, h4, rfl⟩ | ⟨h1, h2, rfl⟩
  · rcases k with ⟨_, rfl⟩ | ⟨k1, _⟩ | ⟨k1, _⟩
    · rfl
    · exact absurd k1 h1
    · exact absurd k1 h1
  · rcases k with ⟨k1, _⟩ | ⟨_, b, k2, k3, k4, rfl⟩ | ⟨_, k2, _⟩
    · exact absurd h1 k1
    · rcases Nat.lt_trichotomy a b with q | q | q
      · exact absurd (k3 a q) h4
      · rw [q]
      · exact absurd (h3 b q) k4
    · exact absurd (k2 a h2) h4
  · rcases k with ⟨k1, _⟩ | ⟨_, b, k2, k3, k4, rfl⟩ | ⟨_, k2, rfl⟩
    · exact absurd h1 k1
    · exact absurd (h2 b k2) k4
    · rfl
theorem PutR.ok {p : Prg} {f : Int × Int} (h : PutR p f) (h0 : f.1 = 0) : p.Ok 8000 10 ∧ (∀ j, j < p.cl → N14 (p.ins j).n) ∧ f.2 = 0 := by
  rcases h with ⟨_, rfl⟩ | ⟨_, _, _, _, _, rfl⟩ | ⟨h1, h2, rfl⟩
  · exact absurd h0 (by decide)
  · exact absurd h0 (by show ¬ (3 : Int) = 0; decide)
  · exact ⟨h1, h2, rfl⟩

/-- Words that lie somewhere. -/
def WordsAt (w : World) (b o n : Nat) (f : Nat → Int) : Prop := ∀ i, i < n → w.cell? ⟨b, o + i, none⟩ = some (.int .u32 (f i))
theorem WordsAt.more {w w' : World} (m : More w w') {b o n : Nat} {f : Nat → Int} (h : WordsAt w b o n f) : WordsAt w' b o n f := fun i hi => m.cell (h i hi)
def wordsL (f : Nat → Int) (n : Nat) : List Value := (List.range n).map fun j => .int .u32 (f j)
theorem wordsL_length (f : Nat → Int) (n : Nat) : (wordsL f n).length = n := by simp [wordsL]
theorem wordsL_next (f : Nat → Int) (n : Nat) : wordsL f (n + 1) = wordsL f n ++ [.int .u32 (f n)] := by simp [wordsL, List.range_succ]
theorem wordsL_get (f : Nat → Int) (n j : Nat) (h : j < n) : (wordsL f n)[j]? = some (.int .u32 (f j)) := by simp [wordsL, h]

end Go.Proofs.Ytifdalddchmlmaa
