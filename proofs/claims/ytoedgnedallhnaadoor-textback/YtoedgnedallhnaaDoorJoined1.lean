/-
  The texts TxForm, PrgOf, TxPars, TbPlain, TcPlain, TcLine, TbBld, TbWrite, Ord, TcNum, TcLaid, TbKind, TbLine, Regions, one behind the other, with what is used of them.
-/
import Derived.Test.YtoedgnedallhnaaDoorJoined0
import Derived.Lib.ItoaNum
import Derived.Lib.ItoaLen
import Derived.Lib.ParseIntB
import Derived.Lib.IndexMore
import Derived.Test.YtoedgnedallhnaaDoorShelf
import Derived.WalkKit
import Derived.BigCall
import Derived.Lib.Hide
import Derived.Deep.RegionHeld3
import Derived.Lib.Strings
import Derived.Test.YtoedgnedallhnaaDoorRows
import Derived.Lib.LaidTab
import Derived.Stop.LaidErr
import Derived.LaidLaws
import Derived.Deep.LoopGhost
namespace Go.Proofs.YtoedgnedallhnaaDoor
section
open Go.RowKit
set_option linter.unusedSimpArgs false
set_option linter.unusedVariables false
/-- The letters of an instruction, form by form. -/
theorem fol_forms {o c : Int} (h : Real o c) : ((21 ≤ o ∧ o ≤ 30 ∧ c = 0) ∧ folL o = [65, 66, 67]) ∨ ((o = 1 ∨ o = 11) ∧ c = 0 ∧ folL o = [65, 78]) ∨ (o = 2 ∧ c = 0 ∧ folL o = [65, 66]) ∨ ((o = 10 ∧ c = 0 ∨ o = 8) ∧ folL o = [65, 66, 78]) ∨ ((o = 3 ∨ o = 4) ∧ c = 0 ∧ folL o = [65, 68, 66, 78]) ∨ ((o = 5 ∨ o = 6) ∧ c = 0 ∧ folL o = [65, 68, 78]) ∨ (o = 7 ∧ c = 0 ∧ folL o = [78]) ∨ (o = 9 ∧ c = 0 ∧ folL o = [65]) ∨ (o = 12 ∧ c = 0 ∧ folL o = []) := by
  rcases h with ⟨h1, h2, h3, rfl⟩ | ⟨rfl, h1, h2⟩ | ⟨h1, h2, rfl⟩
  · have : o = 1 ∨ o = 2 ∨ o = 3 ∨ o = 4 ∨ o = 5 ∨ o = 6 ∨ o = 7 ∨ o = 9 ∨ o = 10 ∨ o = 11 ∨ o = 12 := by omega
    rcases this with rfl | rfl | rfl | rfl | rfl | rfl | rfl | rfl | rfl | rfl | rfl <;> simp [folL]
  · simp [folL]
  · exact .inl ⟨⟨h1, h2, rfl⟩, by unfold folL; rw [if_pos (by omega)]⟩
/-- What a word is does not hang on c but for an IIf. -/
theorem wordL_c {o c c' : Int} (h : ¬ o = 8) : wordL o c = wordL o c' := by
  unfold wordL
  simp [h]
theorem ws_one {ws : List (List UInt8)} {x : List UInt8} (h : ws[0]? = some x) (hl : ws.length = 0 + 1) : ws = [x] := by
  match ws, hl with
  | [a], _ => simpa using h
/-- What is read as an instruction are its words. -/
theorem line_of {ws : List (List UInt8)} {j : Ins} (h : LineIs ws j) : ws = wordL j.op j.c :: lineW j := by
  obtain ⟨o, c, r, e, hl, k⟩ := h
  unfold lineW
  rcases fol_forms r with ⟨h1, hF⟩ | ⟨h1, rfl, hF⟩ | ⟨h1, rfl, hF⟩ | ⟨h1, hF⟩ | ⟨h1, rfl, hF⟩ | ⟨h1, rfl, hF⟩ | ⟨h1, rfl, hF⟩ | ⟨h1, rfl, hF⟩ | ⟨h1, rfl, hF⟩
  · rw [hF] at hl k
    obtain ⟨i3, v3, f3, t3, ⟨i2, v2, f2, t2, ⟨i1, v1, f1, t1, rfl, b1, c1, d1, rfl⟩, b2, c2, d2, rfl⟩, b3, c3, d3, rfl⟩ := k
    obtain rfl := Option.some.inj b1
    obtain rfl := Option.some.inj b2
    obtain rfl := Option.some.inj b3
    match ws, hl with
    | [w0, w1, w2, w3], _ =>
      obtain rfl := Option.some.inj e
      obtain rfl := Option.some.inj c1
      obtain rfl := Option.some.inj c2
      obtain rfl := Option.some.inj c3
      rw [numF_wf d1, numF_wf d2, numF_wf d3]
      simp [setF, getF, hF]
      exact wordL_c (by omega)
  · rw [hF] at hl k
    obtain ⟨i2, v2, f2, t2, ⟨i1, v1, f1, t1, rfl, b1, c1, d1, rfl⟩, b2, c2, d2, rfl⟩ := k
    obtain rfl := Option.some.inj b1
    obtain rfl := Option.some.inj b2
    match ws, hl with
    | [w0, w1, w2], _ =>
      obtain rfl := Option.some.inj e
      obtain rfl := Option.some.inj c1
      obtain rfl := Option.some.inj c2
      rw [numF_wf d1, numF_wf d2]
      simp [setF, getF, hF]
  · rw [hF] at hl k
    obtain ⟨i2, v2, f2, t2, ⟨i1, v1, f1, t1, rfl, b1, c1, d1, rfl⟩, b2, c2, d2, rfl⟩ := k
    obtain rfl := Option.some.inj b1
    obtain rfl := Option.some.inj b2
    match ws, hl with
    | [w0, w1, w2], _ =>
      obtain rfl := Option.some.inj e
      obtain rfl := Option.some.inj c1
      obtain rfl := Option.some.inj c2
      rw [numF_wf d1, numF_wf d2]
      simp [setF, getF, hF]
  · rw [hF] at hl k
    obtain ⟨i3, v3, f3, t3, ⟨i2, v2, f2, t2, ⟨i1, v1, f1, t1, rfl, b1, c1, d1, rfl⟩, b2, c2, d2, rfl⟩, b3, c3, d3, rfl⟩ := k
    obtain rfl := Option.some.inj b1
    obtain rfl := Option.some.inj b2
    obtain rfl := Option.some.inj b3
    match ws, hl with
    | [w0, w1, w2, w3], _ =>
      obtain rfl := Option.some.inj e
      obtain rfl := Option.some.inj c1
      obtain rfl := Option.some.inj c2
      obtain rfl := Option.some.inj c3
      rw [numF_wf d1, numF_wf d2, numF_wf d3]
      simp [setF, getF, hF]
  · rw [hF] at hl k
    obtain ⟨i4, v4, f4, t4, ⟨i3, v3, f3, t3, ⟨i2, v2, f2, t2, ⟨i1, v1, f1, t1, rfl, b1, c1, d1, rfl⟩, b2, c2, d2, rfl⟩, b3, c3, d3, rfl⟩, b4, c4, d4, rfl⟩ := k
    obtain rfl := Option.some.inj b1
    obtain rfl := Option.some.inj b2
    obtain rfl := Option.some.inj b3
    obtain rfl := Option.some.inj b4
    match ws, hl with
    | [w0, w1, w2, w3, w4], _ =>
      obtain rfl := Option.some.inj e
      obtain rfl := Option.some.inj c1
      obtain rfl := Option.some.inj c2
      obtain rfl := Option.some.inj c3
      obtain rfl := Option.some.inj c4
      rw [numF_wf d1, numF_wf d2, numF_wf d3, numF_wf d4]
      simp [setF, getF, hF]
      exact wordL_c (by omega)
  · rw [hF] at hl k
    obtain ⟨i3, v3, f3, t3, ⟨i2, v2, f2, t2, ⟨i1, v1, f1, t1, rfl, b1, c1, d1, rfl⟩, b2, c2, d2, rfl⟩, b3, c3, d3, rfl⟩ := k
    obtain rfl := Option.some.inj b1
    obtain rfl := Option.some.inj b2
    obtain rfl := Option.some.inj b3
    match ws, hl with
    | [w0, w1, w2, w3], _ =>
      obtain rfl := Option.some.inj e
      obtain rfl := Option.some.inj c1
      obtain rfl := Option.some.inj c2
      obtain rfl := Option.some.inj c3
      rw [numF_wf d1, numF_wf d2, numF_wf d3]
      simp [setF, getF, hF]
      exact wordL_c (by omega)
  · rw [hF] at hl k
    obtain ⟨i1, v1, f1, t1, rfl, b1, c1, d1, rfl⟩ := k
    obtain rfl := Option.some.inj b1
    match ws, hl with
    | [w0, w1], _ =>
      obtain rfl := Option.some.inj e
      obtain rfl := Option.some.inj c1
      rw [numF_wf d1]
      simp [setF, getF, hF]
  · rw [hF] at hl k
    obtain ⟨i1, v1, f1, t1, rfl, b1, c1, d1, rfl⟩ := k
    obtain rfl := Option.some.inj b1
    match ws, hl with
    | [w0, w1], _ =>
      obtain rfl := Option.some.inj e
      obtain rfl := Option.some.inj c1
      rw [numF_wf d1]
      simp [setF, getF, hF]
  · rw [hF] at hl k
    obtain rfl : j = _ := k
    rw [ws_one e hl]
    simp [hF]
/-- An instruction's words are read as it. -/
theorem words_line {rl : Nat} {log : Nat → Int} {cl : Nat} {i : Ins} (h : InsOk rl log cl 10 i) (hr : rl ≤ 6) (hb : B64 i.n) : LineIs (wordL i.op i.c :: lineW i) i := by
  have hreg : ∀ x, Reg 10 x → B64 x ∧ x.natAbs < 10 ^ 18 := fun x hx => by unfold Reg at hx; unfold B64; omega
  have hrgn : ∀ x, Rgn rl x → B64 x ∧ x.natAbs < 10 ^ 18 := fun x hx => by unfold Rgn at hx; unfold B64; omega
  have num : ∀ f x, (B64 x ∧ x.natAbs < 10 ^ 18) → NumF f (wf f x) x := fun f x hx => wf_numF hx.1 (fun _ => hx.2)
  have numN : NumF 78 (wf 78 i.n) i.n := wf_numF hb (fun h => absurd rfl h)
  obtain ⟨op, a, b, c, n⟩ := i
  unfold InsOk at h
  dsimp only at h hb numN
  unfold lineW
  dsimp only
  by_cases e1 : op = 1
  · subst e1
    simp only [reduceIte] at h
    obtain ⟨ha, rfl, rfl⟩ := h
    exact ⟨1, 0, by unfold Real; omega, rfl, rfl, _, n, 78, _, ⟨_, a, 65, _, rfl, rfl, rfl, num 65 a (hreg a ha), rfl⟩, rfl, rfl, numN, rfl⟩
  rw [if_neg e1] at h
  by_cases e2 : op = 2
  · subst e2
    simp only [reduceIte] at h
    obtain ⟨ha, hb', rfl, rfl⟩ := h
    exact ⟨2, 0, by unfold Real; omega, rfl, rfl, _, b, 66, _, ⟨_, a, 65, _, rfl, rfl, rfl, num 65 a (hreg a ha), rfl⟩, rfl, rfl, num 66 b (hreg b hb'), rfl⟩
  rw [if_neg e2] at h
  by_cases e3 : op = 3
  · subst e3
    simp only [reduceIte] at h
    obtain ⟨ha, hb', hc⟩ := h
    exact ⟨3, 0, by unfold Real; omega, rfl, rfl, _, n, 78, _, ⟨_, b, 66, _, ⟨_, c, 68, _, ⟨_, a, 65, _, rfl, rfl, rfl, num 65 a (hreg a ha), rfl⟩, rfl, rfl, num 68 c (hrgn c hc), rfl⟩, rfl, rfl, num 66 b (hreg b hb'), rfl⟩, rfl, rfl, numN, rfl⟩
  rw [if_neg e3] at h
  by_cases e4 : op = 4
  · subst e4
    simp only [reduceIte] at h
    obtain ⟨ha, hb', hc⟩ := h
    exact ⟨4, 0, by unfold Real; omega, rfl, rfl, _, n, 78, _, ⟨_, b, 66, _, ⟨_, c, 68, _, ⟨_, a, 65, _, rfl, rfl, rfl, num 65 a (hreg a ha), rfl⟩, rfl, rfl, num 68 c (hrgn c hc), rfl⟩, rfl, rfl, num 66 b (hreg b hb'), rfl⟩, rfl, rfl, numN, rfl⟩
  rw [if_neg e4] at h
  by_cases e5 : op = 5
  · subst e5
    simp only [reduceIte] at h
    obtain ⟨ha, rfl, hc, _⟩ := h
    exact ⟨5, 0, by unfold Real; omega, rfl, rfl, _, n, 78, _, ⟨_, c, 68, _, ⟨_, a, 65, _, rfl, rfl, rfl, num 65 a (hreg a ha), rfl⟩, rfl, rfl, num 68 c (hrgn c hc), rfl⟩, rfl, rfl, numN, rfl⟩
  rw [if_neg e5] at h
  by_cases e6 : op = 6
  · subst e6
    simp only [reduceIte] at h
    obtain ⟨ha, rfl, hc, _⟩ := h
    exact ⟨6, 0, by unfold Real; omega, rfl, rfl, _, n, 78, _, ⟨_, c, 68, _, ⟨_, a, 65, _, rfl, rfl, rfl, num 65 a (hreg a ha), rfl⟩, rfl, rfl, num 68 c (hrgn c hc), rfl⟩, rfl, rfl, numN, rfl⟩
  rw [if_neg e6] at h
  by_cases e7 : op = 7
  · subst e7
    simp only [reduceIte] at h
    obtain ⟨rfl, rfl, rfl, _⟩ := h
    exact ⟨7, 0, by unfold Real; omega, rfl, rfl, _, n, 78, _, rfl, rfl, rfl, numN, rfl⟩
  rw [if_neg e7] at h
  by_cases e8 : op = 8
  · subst e8
    simp only [reduceIte] at h
    obtain ⟨ha, hb', hc, _⟩ := h
    exact ⟨8, c, by unfold Real; omega, rfl, rfl, _, n, 78, _, ⟨_, b, 66, _, ⟨_, a, 65, _, rfl, rfl, rfl, num 65 a (hreg a ha), rfl⟩, rfl, rfl, num 66 b (hreg b hb'), rfl⟩, rfl, rfl, numN, rfl⟩
  rw [if_neg e8] at h
  by_cases e9 : op = 9
  · subst e9
    simp only [reduceIte] at h
    obtain ⟨ha, rfl, rfl, rfl⟩ := h
    exact ⟨9, 0, by unfold Real; omega, rfl, rfl, _, a, 65, _, rfl, rfl, rfl, num 65 a (hreg a ha), rfl⟩
  rw [if_neg e9] at h
  by_cases e10 : op = 10
  · subst e10
    simp only [reduceIte] at h
    obtain ⟨ha, hb', rfl⟩ := h
    exact ⟨10, 0, by unfold Real; omega, rfl, rfl, _, n, 78, _, ⟨_, b, 66, _, ⟨_, a, 65, _, rfl, rfl, rfl, num 65 a (hreg a ha), rfl⟩, rfl, rfl, num 66 b (hreg b hb'), rfl⟩, rfl, rfl, numN, rfl⟩
  rw [if_neg e10] at h
  by_cases e11 : op = 11
  · subst e11
    simp only [reduceIte] at h
    obtain ⟨ha, rfl, rfl, _⟩ := h
    exact ⟨11, 0, by unfold Real; omega, rfl, rfl, _, n, 78, _, ⟨_, a, 65, _, rfl, rfl, rfl, num 65 a (hreg a ha), rfl⟩, rfl, rfl, numN, rfl⟩
  rw [if_neg e11] at h
  by_cases e12 : op = 12
  · subst e12
    simp only [reduceIte] at h
    obtain ⟨rfl, rfl, rfl, rfl⟩ := h
    exact ⟨12, 0, by unfold Real; omega, rfl, rfl, rfl⟩
  rw [if_neg e12] at h
  obtain ⟨ho, ha, hb', hc, rfl⟩ := h
  have r : Real op 0 := .inr (.inr ⟨ho.1, ho.2, rfl⟩)
  have hF : folL op = [65, 66, 67] := by unfold folL; rw [if_pos (by omega)]
  refine ⟨op, 0, r, ?_, by rw [hF]; rfl, ?_⟩
  · show some (wordL op c) = _
    rw [wordL_c (by omega)]
  · rw [hF]
    exact ⟨_, c, 67, _, ⟨_, b, 66, _, ⟨_, a, 65, _, rfl, rfl, rfl, num 65 a (hreg a ha), rfl⟩, rfl, rfl, num 66 b (hreg b hb'), rfl⟩, rfl, rfl, num 67 c (hreg c hc), rfl⟩
end
section
open Go.RowKit
set_option linter.unusedVariables false
/-- The program of regions and instructions. -/
def prgOf (rs : List (Int × Bool)) (cs : List Ins) : Prg := ⟨rs.length, fun k => (rs.getD k (0, false)).1, fun k => (rs.getD k (0, false)).2, cs.length, fun k => cs.getD k ⟨0, 0, 0, 0, 0⟩⟩
end
section
open Go.RowKit
set_option linter.unusedSimpArgs false
set_option linter.unusedVariables false
def rgnL : List UInt8 := [114, 101, 103, 105, 111, 110]
def secW (s : Bool) : List UInt8 := if s then [115, 101, 99, 114, 101, 116] else [112, 117, 98, 108, 105, 99]
/-- The region that a line's words are. -/
def RegIs (ws : List (List UInt8)) (lg : Int) (sc : Bool) : Prop := ∃ t, ws = [rgnL, t, secW sc] ∧ NumIs 18 t lg
theorem secW_one {s s' : Bool} (h : secW s = secW s') : s = s' := by
  cases s <;> cases s' <;> first | rfl | exact absurd h (by decide)
theorem regIs_one {ws : List (List UInt8)} {lg lg' : Int} {sc sc' : Bool} (h : RegIs ws lg sc) (k : RegIs ws lg' sc') : lg = lg' ∧ sc = sc' := by
  obtain ⟨t, e, n⟩ := h
  obtain ⟨t', e', n'⟩ := k
  rw [e] at e'
  have e1 := (List.cons.inj e').2
  obtain ⟨e2, e3⟩ := List.cons.inj e1
  subst e2
  exact ⟨numIs_one n n', secW_one (List.cons.inj e3).1⟩
theorem word_not_region {o c : Int} (h : Real o c) : ¬ wordL o c = rgnL := by
  intro e
  have := opOf_word h
  rw [e, show opOf rgnL = none from rfl] at this
  cases this
theorem line_not_region {ws : List (List UInt8)} {j : Ins} (h : LineIs ws j) : ¬ ws[0]? = some rgnL := by
  obtain ⟨o, c, r, e, _⟩ := h
  rw [e]
  intro q
  exact word_not_region r (Option.some.inj q)
/-- A line more. -/
def LineTo (l : List UInt8) (rs : List (Int × Bool)) (cs : List Ins) (rs' : List (Int × Bool)) (cs' : List Ins) : Prop :=
  (∃ lg sc, RegIs (splitL 32 l) lg sc ∧ cs = [] ∧ rs' = rs ++ [(lg, sc)] ∧ cs' = []) ∨ (∃ j, LineIs (splitL 32 l) j ∧ rs' = rs ∧ cs' = cs ++ [j])
theorem lineTo_one {l : List UInt8} {rs r1 r2 : List (Int × Bool)} {cs c1 c2 : List Ins} (h : LineTo l rs cs r1 c1) (k : LineTo l rs cs r2 c2) : r1 = r2 ∧ c1 = c2 := by
  rcases h with ⟨lg, sc, h, _, rfl, rfl⟩ | ⟨j, h, rfl, rfl⟩ <;> rcases k with ⟨lg', sc', k, _, rfl, rfl⟩ | ⟨j', k, rfl, rfl⟩
  · obtain ⟨rfl, rfl⟩ := regIs_one h k
    exact ⟨rfl, rfl⟩
  · obtain ⟨t, e, _⟩ := h
    exact absurd (by rw [e]; rfl) (line_not_region k)
  · obtain ⟨t, e, _⟩ := k
    exact absurd (by rw [e]; rfl) (line_not_region h)
  · rw [lineIs_one h k]
    exact ⟨rfl, rfl⟩
/-- So many lines are read. -/
def ParsK (L : List (List UInt8)) : Nat → List (Int × Bool) → List Ins → Prop
  | 0, rs, cs => rs = [] ∧ cs = []
  | k + 1, rs, cs => ∃ r c l, ParsK L k r c ∧ L[k]? = some l ∧ LineTo l r c rs cs
theorem parsK_one {L : List (List UInt8)} : ∀ {k : Nat} {r1 r2 : List (Int × Bool)} {c1 c2 : List Ins}, ParsK L k r1 c1 → ParsK L k r2 c2 → r1 = r2 ∧ c1 = c2
  | 0, _, _, _, _, ⟨a, b⟩, ⟨a', b'⟩ => ⟨a.trans a'.symm, b.trans b'.symm⟩
  | k + 1, _, _, _, _, ⟨r, c, l, a, b, d⟩, ⟨r', c', l', a', b', d'⟩ => by
    obtain ⟨rfl, rfl⟩ := parsK_one a a'
    rw [b] at b'
    obtain rfl := Option.some.inj b'
    exact lineTo_one d d'
theorem parsK_down {L : List (List UInt8)} : ∀ {m : Nat} {rs : List (Int × Bool)} {cs : List Ins}, ParsK L m rs cs → ∀ k, k ≤ m → ∃ r c, ParsK L k r c
  | 0, rs, cs, h, k, hk => by
    obtain rfl : k = 0 := by omega
    exact ⟨rs, cs, h⟩
  | m + 1, rs, cs, h, k, hk => by
    by_cases e : k = m + 1
    · subst e; exact ⟨rs, cs, h⟩
    · obtain ⟨r, c, _, a, _⟩ := h
      exact parsK_down a k (by omega)
theorem parsK_len {L : List (List UInt8)} : ∀ {k : Nat} {rs : List (Int × Bool)} {cs : List Ins}, ParsK L k rs cs → rs.length + cs.length = k
  | 0, _, _, ⟨a, b⟩ => by subst a; subst b; rfl
  | k + 1, _, _, ⟨r, c, l, a, b, d⟩ => by
    have ih := parsK_len a
    rcases d with ⟨lg, sc, _, e, rfl, rfl⟩ | ⟨j, _, rfl, rfl⟩
    · subst e; simp at ih ⊢; omega
    · simp; omega
/-- The first line that is none. -/
def FailsAt (s : List UInt8) (k : Nat) : Prop := ∃ rs cs, ParsK (splitL 10 s) k rs cs ∧ ((∃ l, k + 1 < (splitL 10 s).length ∧ (splitL 10 s)[k]? = some l ∧ ∀ rs' cs', ¬ LineTo l rs cs rs' cs') ∨ (k + 1 = (splitL 10 s).length ∧ ¬ ((splitL 10 s)[k]? = some [] ∧ (prgOf rs cs).Ok 8000 10)))
/-- What is read. -/
def ReadsAs (s : List UInt8) (rs : List (Int × Bool)) (cs : List Ins) : Prop := ∃ k, k + 1 = (splitL 10 s).length ∧ ParsK (splitL 10 s) k rs cs ∧ (splitL 10 s)[k]? = some [] ∧ (prgOf rs cs).Ok 8000 10
theorem readsAs_one {s : List UInt8} {r1 r2 : List (Int × Bool)} {c1 c2 : List Ins} (h : ReadsAs s r1 c1) (k : ReadsAs s r2 c2) : r1 = r2 ∧ c1 = c2 := by
  obtain ⟨n, h1, h2, _⟩ := h
  obtain ⟨n', k1, k2, _⟩ := k
  obtain rfl : n = n' := by omega
  exact parsK_one h2 k2
theorem fails_not {s : List UInt8} {k : Nat} {r : List (Int × Bool)} {c : List Ins} (h : FailsAt s k) (q : ReadsAs s r c) : False := by
  obtain ⟨rs, cs, p, h⟩ := h
  obtain ⟨n, q1, q2, q3, q4⟩ := q
  rcases h with ⟨l, h1, h2, h3⟩ | ⟨h1, h2⟩
  · obtain ⟨r', c', a⟩ := parsK_down q2 (k + 1) (by omega)
    obtain ⟨r0, c0, l0, a0, b0, d0⟩ := a
    obtain ⟨rfl, rfl⟩ := parsK_one p a0
    rw [h2] at b0
    obtain rfl := Option.some.inj b0
    exact h3 _ _ d0
  · obtain rfl : n = k := by omega
    obtain ⟨rfl, rfl⟩ := parsK_one p q2
    exact h2 ⟨q3, q4⟩
theorem fails_le {s : List UInt8} {k k' : Nat} (h : FailsAt s k) (h' : FailsAt s k') : k' ≤ k := by
  obtain ⟨rs, cs, p, h⟩ := h
  obtain ⟨rs', cs', p', h'⟩ := h'
  apply Nat.le_of_not_lt
  intro lt
  have hk : k' + 1 ≤ (splitL 10 s).length := by
    rcases h' with ⟨l, h1, _⟩ | ⟨h1, _⟩ <;> omega
  rcases h with ⟨l, h1, h2, h3⟩ | ⟨h1, h2⟩
  · obtain ⟨r', c', a⟩ := parsK_down p' (k + 1) (by omega)
    obtain ⟨r0, c0, l0, a0, b0, d0⟩ := a
    obtain ⟨rfl, rfl⟩ := parsK_one p a0
    rw [h2] at b0
    obtain rfl := Option.some.inj b0
    exact h3 _ _ d0
  · omega
theorem fails_one {s : List UInt8} {k k' : Nat} (h : FailsAt s k) (h' : FailsAt s k') : k = k' := Nat.le_antisymm (fails_le h' h) (fails_le h h')

/-- A region's line. -/
theorem regL_words (lg : Int) (sc : Bool) : regL lg sc = rgnL ++ [digI lg, secW sc].flatMap (fun y => 32 :: y) ++ [10] := by
  unfold regL rgnL secW
  cases sc <;> simp
theorem secW_clean (sc : Bool) : ∀ b ∈ secW sc, 45 ≤ b.toNat := by cases sc <;> decide
theorem rgnL_clean : ∀ b ∈ rgnL, 45 ≤ b.toNat := by decide
theorem split_reg (lg : Int) (sc : Bool) : splitL 32 (rgnL ++ [digI lg, secW sc].flatMap (fun y => 32 :: y)) = [rgnL, digI lg, secW sc] := by
  refine split_flat 32 _ _ (clean_not rgnL_clean 32 (by decide)) (fun y hy => ?_)
  rcases List.mem_cons.1 hy with rfl | hy
  · exact clean_not (dig_clean _) 32 (by decide)
  · obtain rfl := List.mem_singleton.1 hy
    exact clean_not (secW_clean _) 32 (by decide)
theorem reg_of {l : List UInt8} {lg : Int} {sc : Bool} (h : RegIs (splitL 32 l) lg sc) : l ++ [10] = regL lg sc := by
  obtain ⟨t, e, n⟩ := h
  obtain ⟨x, ws, h1, h2, _⟩ := flat_split 32 l
  rw [h1] at e
  obtain ⟨e1, e2⟩ := List.cons.inj e
  rw [regL_words, h2, e1, e2, numIs_dig n (by decide)]
theorem ins_of {l : List UInt8} {j : Ins} (h : LineIs (splitL 32 l) j) : l ++ [10] = lineL j := by
  have e := line_of h
  obtain ⟨x, ws, h1, h2, _⟩ := flat_split 32 l
  rw [h1] at e
  obtain ⟨e1, e2⟩ := List.cons.inj e
  rw [line_words, h2, e1, e2]
theorem parsK_text {L : List (List UInt8)} : ∀ {k : Nat} {rs : List (Int × Bool)} {cs : List Ins}, ParsK L k rs cs → (L.take k).flatMap (fun y => y ++ [10]) = rs.flatMap (fun r => regL r.1 r.2) ++ cs.flatMap lineL
  | 0, _, _, ⟨a, b⟩ => by subst a; subst b; rfl
  | k + 1, _, _, ⟨r, c, l, a, b, d⟩ => by
    have ih := parsK_text a
    rw [List.take_add_one, List.flatMap_append, ih, b]
    rcases d with ⟨lg, sc, h, e, rfl, rfl⟩ | ⟨j, h, rfl, rfl⟩
    · subst e
      have := reg_of h
      simp [List.flatMap_append, this]
    · have := ins_of h
      simp [List.flatMap_append, this]
theorem regsL_take (rs : List (Int × Bool)) (cs : List Ins) : ∀ k, k ≤ rs.length → regsL (prgOf rs cs) k = (rs.take k).flatMap (fun r => regL r.1 r.2)
  | 0, _ => by simp [regsL]
  | k + 1, h => by
    rw [regsL, regsL_take rs cs k (by omega), List.take_add_one, List.flatMap_append, List.getElem?_eq_getElem (by omega)]
    simp [prgOf, List.getD_eq_getElem?_getD, List.getElem?_eq_getElem (show k < rs.length by omega)]
theorem insL_take (rs : List (Int × Bool)) (cs : List Ins) : ∀ k, k ≤ cs.length → insL_ (prgOf rs cs) k = (cs.take k).flatMap lineL
  | 0, _ => by simp [insL_]
  | k + 1, h => by
    rw [insL_, insL_take rs cs k (by omega), List.take_add_one, List.flatMap_append, List.getElem?_eq_getElem (by omega)]
    simp [prgOf, List.getD_eq_getElem?_getD, List.getElem?_eq_getElem (show k < cs.length by omega)]
/-- What is read is the program's text. -/
theorem reads_text {s : List UInt8} {rs : List (Int × Bool)} {cs : List Ins} (h : ReadsAs s rs cs) : s = textL (prgOf rs cs) := by
  obtain ⟨k, h1, h2, h3, _⟩ := h
  have e := lines_of 10 s (by rw [List.getLast?_eq_getElem?, show (splitL 10 s).length - 1 = k by omega]; exact h3)
  rw [List.dropLast_eq_take, show (splitL 10 s).length - 1 = k by omega, parsK_text h2] at e
  unfold textL
  rw [show (prgOf rs cs).rl = rs.length from rfl, show (prgOf rs cs).cl = cs.length from rfl, regsL_take rs cs _ (Nat.le_refl _), insL_take rs cs _ (Nat.le_refl _), List.take_length, List.take_length]
  exact e
/-- A capital stands for a number. -/
def capB (c : UInt8) : Bool := decide (65 ≤ c.toNat ∧ c.toNat ≤ 90)
/-- What is written for fields. -/
def writL (tl : UInt8 → Int) : List UInt8 → List UInt8
  | [] => []
  | c :: F => (if capB c then digI (tl c) else [c]) ++ writL tl F
theorem writL_app (tl : UInt8 → Int) : ∀ F G, writL tl (F ++ G) = writL tl F ++ writL tl G
  | [], _ => rfl
  | c :: F, G => by rw [List.cons_append, writL, writL, writL_app tl F G, List.append_assoc]
theorem writL_length (tl : UInt8 → Int) : ∀ F, (writL tl F).length ≤ 21 * F.length
  | [] => Nat.le_refl _
  | c :: F => by
    have := writL_length tl F
    have := digI_length (tl c)
    rw [writL, List.length_append]
    split <;> simp <;> omega
theorem writL_take (tl : UInt8 → Int) (F : List UInt8) (k : Nat) (c : UInt8) (h : F[k]? = some c) : writL tl (F.take (k + 1)) = writL tl (F.take k) ++ (if capB c then digI (tl c) else [c]) := by
  rw [List.take_add_one, h, writL_app]
  simp [writL]

theorem dec_dig_lib : ∀ (f u : Nat), u < 10 ^ (f + 1) → Lib.decDigits u = dig (f + 1) u
  | 0, u, h => by
    rw [Lib.decDigits, dif_pos (by omega), dig, if_pos (by omega), List.nil_append, Nat.mod_eq_of_lt (by omega)]
  | f + 1, u, h => by
    rw [Lib.decDigits]
    by_cases c : u < 10
    · rw [dif_pos c, dig, if_pos (by omega), List.nil_append, Nat.mod_eq_of_lt c]
    · rw [dif_neg c, dig, if_neg (by omega), dec_dig_lib f (u / 10) (by
        have : 10 ^ (f + 1 + 1) = 10 ^ (f + 1) * 10 := Nat.pow_succ ..
        omega)]
theorem itoa_dig {n : Int} (h : B64 n) : Lib.itoa n = digI n := by
  unfold B64 at h
  unfold Lib.itoa digI
  have e : (10 : Nat) ^ (19 + 1) = 100000000000000000000 := by decide
  by_cases c : n < 0
  · rw [if_pos c, if_pos c, dec_dig_lib 19 _ (by rw [e]; omega)]
    rfl
  · rw [if_neg c, if_neg c, dec_dig_lib 19 _ (by rw [e]; omega), List.nil_append]
    congr 1
    omega

/-- A kind: its word, its Op, its condition, its fields. -/
abbrev Kd := List UInt8 × Int × Int × List UInt8
def rN : List UInt8 := [32, 114, 65, 32, 114, 66, 32, 78]
def rC : List UInt8 := [32, 114, 65, 32, 114, 66, 32, 114, 67]
def gN : List UInt8 := [32, 114, 65, 32, 103, 67, 32, 114, 66, 32, 78]
def kN : List UInt8 := [32, 114, 65, 32, 103, 67, 32, 78]
def kindsT : List Kd :=
  [([115, 101, 116], 1, 0, [32, 114, 65, 32, 78]), ([109, 111, 118, 101], 2, 0, [32, 114, 65, 32, 114, 66]), ([112, 108, 117, 115], 10, 0, rN), ([108, 111, 97, 100], 3, 0, gN), ([112, 117, 116], 4, 0, gN),
   ([108, 111, 97, 100, 107], 5, 0, kN), ([112, 117, 116, 107], 6, 0, kN), ([106, 117, 109, 112], 7, 0, [32, 78]), ([115, 97, 109, 101], 8, 1, rN), ([111, 116, 104, 101, 114], 8, 2, rN),
   ([108, 101, 115, 115], 8, 3, rN), ([109, 111, 115, 116], 8, 4, rN), ([104, 97, 108, 116], 9, 0, [32, 114, 65]), ([109, 97, 115, 107], 11, 0, [32, 114, 65, 32, 78]), ([102, 101, 110, 99, 101], 12, 0, []),
   ([97, 100, 100], 21, 0, rC), ([115, 117, 98], 22, 0, rC), ([109, 117, 108], 23, 0, rC), ([97, 110, 100], 24, 0, rC), ([111, 114], 25, 0, rC), ([120, 111, 114], 26, 0, rC), ([115, 104, 108], 27, 0, rC),
   ([115, 104, 114], 28, 0, rC), ([100, 105, 118], 29, 0, rC), ([109, 111, 100], 30, 0, rC)]
def kindCells (k : Kd) : List Value := [.string (txt k.1), .int .i64 k.2.1, .int .i64 k.2.2.1, .string (txt k.2.2.2)]
def kindsC : List Value := kindsT.flatMap kindCells
theorem kindsT_length : kindsT.length = 25 := rfl
theorem kindsC_length : kindsC.length = 100 := rfl
theorem kindsC_at (k : Nat) (x : Kd) (h : kindsT[k]? = some x) : kindsC[k * 4]? = some (.string (txt x.1)) ∧ kindsC[k * 4 + 1]? = some (.int .i64 x.2.1) ∧ kindsC[k * 4 + 2]? = some (.int .i64 x.2.2.1) ∧ kindsC[k * 4 + 3]? = some (.string (txt x.2.2.2)) := by
  have hk : k < 25 := by
    have := (List.getElem?_eq_some_iff.1 h).1
    simpa [kindsT_length] using this
  have key : ∀ (L : List Kd) (k : Nat), L[k]? = some x → (L.flatMap kindCells)[k * 4]? = some (.string (txt x.1)) ∧ (L.flatMap kindCells)[k * 4 + 1]? = some (.int .i64 x.2.1) ∧ (L.flatMap kindCells)[k * 4 + 2]? = some (.int .i64 x.2.2.1) ∧ (L.flatMap kindCells)[k * 4 + 3]? = some (.string (txt x.2.2.2)) := by
    intro L
    induction L with
    | nil => intro k h; simp at h
    | cons y L ih =>
      intro k h
      rw [List.flatMap_cons]
      cases k with
      | zero => simp at h; subst h; simp [kindCells]
      | succ k =>
        have := ih k (by simpa using h)
        have e : ∀ j, (kindCells y ++ L.flatMap kindCells)[(k + 1) * 4 + j]? = (L.flatMap kindCells)[k * 4 + j]? := fun j => by
          rw [List.getElem?_append_right (by show 4 ≤ _; omega)]
          congr 1
          show (k + 1) * 4 + j - 4 = _
          omega
        exact ⟨(e 0).trans this.1, (e 1).trans this.2.1, (e 2).trans this.2.2.1, (e 3).trans this.2.2.2⟩
  exact key kindsT k h
/-- The first kind that fits an instruction. -/
def fitK (i : Ins) (x : Kd) : Prop := x.2.1 = i.op ∧ (x.2.2.1 = 0 ∨ x.2.2.1 = i.c)
/-- What a field's number is. -/
def tellI (i : Ins) (c : UInt8) : Int := if c = 65 then i.a else if c = 66 then i.b else if c = 67 then i.c else i.n
theorem kind_cases {k : Nat} {x : Kd} (h : kindsT[k]? = some x) : x ∈ kindsT := List.mem_of_getElem? h
set_option maxHeartbeats 2000000 in
/-- A kind that fits an instruction gives its line. -/
theorem kind_line {i : Ins} {x : Kd} (h : x ∈ kindsT) (f : fitK i x) : x.1 ++ writL (tellI i) x.2.2.2 ++ [10] = lineL i := by
  obtain ⟨op, a, b, c, n⟩ := i
  obtain ⟨f1, f2⟩ := f
  have f1 : x.2.1 = op := f1
  have f2 : x.2.2.1 = 0 ∨ x.2.2.1 = c := f2
  subst f1
  simp only [kindsT, List.mem_cons, List.not_mem_nil, or_false] at h
  rcases h with rfl | rfl | rfl | rfl | rfl | rfl | rfl | rfl | rfl | rfl | rfl | rfl | rfl | rfl | rfl | rfl | rfl | rfl | rfl | rfl | rfl | rfl | rfl | rfl | rfl
  all_goals first
    | (have hc := f2.resolve_left (by decide); have hc' := hc.symm; simp only at hc'; subst hc'; simp [lineL, wordL, folL, piecesF, pieceF, writL, capB, tellI, rN, rC, gN, kN])
    | simp [lineL, wordL, folL, piecesF, pieceF, writL, capB, tellI, rN, rC, gN, kN]
/-- An instruction that has a word has a kind. -/
theorem kind_has {i : Ins} (h : HasW i.op i.c) (h0 : ¬ i.op = 0) : ∃ x ∈ kindsT, fitK i x := by
  obtain ⟨op, a, b, c, n⟩ := i
  have h : HasW op c := h
  have h0 : ¬ op = 0 := h0
  have key : ∀ (k : Nat) (x : Kd), kindsT[k]? = some x → op = x.2.1 → (x.2.2.1 = 0 ∨ x.2.2.1 = c) → ∃ x ∈ kindsT, fitK ⟨op, a, b, c, n⟩ x := fun k x hk e1 e2 => ⟨x, kind_cases hk, e1.symm, e2⟩
  unfold HasW at h
  by_cases e : op = 1; · exact key 0 _ rfl e (.inl rfl)
  by_cases e : op = 2; · exact key 1 _ rfl e (.inl rfl)
  by_cases e : op = 10; · exact key 2 _ rfl e (.inl rfl)
  by_cases e : op = 3; · exact key 3 _ rfl e (.inl rfl)
  by_cases e : op = 4; · exact key 4 _ rfl e (.inl rfl)
  by_cases e : op = 5; · exact key 5 _ rfl e (.inl rfl)
  by_cases e : op = 6; · exact key 6 _ rfl e (.inl rfl)
  by_cases e : op = 7; · exact key 7 _ rfl e (.inl rfl)
  by_cases e : op = 8
  · by_cases d : c = 1; · exact key 8 _ rfl e (.inr d.symm)
    by_cases d : c = 2; · exact key 9 _ rfl e (.inr d.symm)
    by_cases d : c = 3; · exact key 10 _ rfl e (.inr d.symm)
    by_cases d : c = 4; · exact key 11 _ rfl e (.inr d.symm)
    omega
  by_cases e : op = 9; · exact key 12 _ rfl e (.inl rfl)
  by_cases e : op = 11; · exact key 13 _ rfl e (.inl rfl)
  by_cases e : op = 12; · exact key 14 _ rfl e (.inl rfl)
  by_cases e : op = 21; · exact key 15 _ rfl e (.inl rfl)
  by_cases e : op = 22; · exact key 16 _ rfl e (.inl rfl)
  by_cases e : op = 23; · exact key 17 _ rfl e (.inl rfl)
  by_cases e : op = 24; · exact key 18 _ rfl e (.inl rfl)
  by_cases e : op = 25; · exact key 19 _ rfl e (.inl rfl)
  by_cases e : op = 26; · exact key 20 _ rfl e (.inl rfl)
  by_cases e : op = 27; · exact key 21 _ rfl e (.inl rfl)
  by_cases e : op = 28; · exact key 22 _ rfl e (.inl rfl)
  by_cases e : op = 29; · exact key 23 _ rfl e (.inl rfl)
  by_cases e : op = 30; · exact key 24 _ rfl e (.inl rfl)
  omega
/-- What a kind's fields are. -/
theorem kind_fields {x : Kd} (h : x ∈ kindsT) : (∀ c ∈ x.2.2.2, c.toNat < 128 ∧ (capB c = true → c = 65 ∨ c = 66 ∨ c = 67 ∨ c = 78)) ∧ x.2.2.2.length ≤ 11 := by
  have : ∀ x ∈ kindsT, (∀ c ∈ x.2.2.2, c.toNat < 128 ∧ (capB c = true → c = 65 ∨ c = 66 ∨ c = 67 ∨ c = 78)) ∧ x.2.2.2.length ≤ 11 := by decide
  exact this x h
/-- A region's fields. -/
def regF (sec : Bool) : List UInt8 := if sec then [32, 76, 32, 115, 101, 99, 114, 101, 116] else [32, 76, 32, 112, 117, 98, 108, 105, 99]
theorem reg_line (lg : Int) (sec : Bool) : rgnL ++ writL (fun _ => lg) (regF sec) ++ [10] = regL lg sec := by
  cases sec <;> simp [rgnL, regF, regL, writL, capB]
theorem regF_fields (sec : Bool) : (∀ c ∈ regF sec, c.toNat < 128) ∧ (regF sec).length = 9 := by cases sec <;> decide
def valF (a : Nat) (l : List UInt8) : Nat := l.foldl (fun a c => a * 10 + (c.toNat - 48)) a
theorem valF_cons (a : Nat) (c : UInt8) (r : List UInt8) : valF a (c :: r) = valF (a * 10 + (c.toNat - 48)) r := List.foldl_cons ..
theorem valF_valK : ∀ (y x : List UInt8), valF (valK x x.length) y = valK (x ++ y) (x ++ y).length
  | [], x => by rw [List.append_nil]; rfl
  | c :: y, x => by
    rw [valF_cons, show valK x x.length * 10 + (c.toNat - 48) = valK (x ++ [c]) (x ++ [c]).length by rw [valK_snoc]; omega, valF_valK y (x ++ [c]), List.append_assoc]
    rfl
theorem valF_up : ∀ (y : List UInt8) (a : Nat), a ≤ valF a y
  | [], a => Nat.le_refl _
  | c :: y, a => by rw [valF_cons]; have := valF_up y (a * 10 + (c.toNat - 48)); omega
theorem parse_val (M : Nat) (hM : 9223372036854775808 ≤ M) : ∀ (y : List UInt8) (a : Nat), (∀ b ∈ y, 48 ≤ b.toNat ∧ b.toNat ≤ 57) → valF a y ≤ 9223372036854775808 → Lib.parseUintM M a y = .ok (valF a y)
  | [], a, _, _ => rfl
  | c :: y, a, hd, hv => by
    have h1 := hd c (by simp)
    rw [valF_cons] at hv
    have h2 := valF_up y (a * 10 + (c.toNat - 48))
    rw [Lib.parseUintM, if_pos h1, if_neg (by omega), if_neg (by omega), valF_cons]
    exact parse_val M hM y _ (fun b hb => hd b (by simp [hb])) hv
theorem parse_dig {v : Int} (h : B64 v) : Lib.parseIntB 64 (digI v) = .ok v := by
  unfold B64 at h
  have e : (10 : Nat) ^ 20 = 100000000000000000000 := by decide
  obtain ⟨⟨d1, d2, _⟩, d3, _⟩ := dig_dec 20 v.natAbs (by rw [e]; omega) (by omega)
  have hv : valF 0 (dig 20 v.natAbs) = v.natAbs := by
    have := valF_valK (dig 20 v.natAbs) []
    rw [List.nil_append, d3] at this
    exact this
  have hp : Lib.parseUintB 64 (dig 20 v.natAbs) = .ok v.natAbs := by
    unfold Lib.parseUintB
    rw [if_neg (by intro e; rw [e] at d1; simp at d1), parse_val _ (by decide) _ _ d2 (by rw [hv]; omega), hv]
  have e63 : (2 : Nat) ^ (64 - 1) = 9223372036854775808 := by decide
  unfold digI
  by_cases c : v < 0
  · rw [if_pos c, List.singleton_append, Lib.parseIntB]
    simp only [show ((45 : UInt8).toNat = 43 ∨ (45 : UInt8).toNat = 45) = True from by decide, if_true, hp]
    show (if ¬ (45 : UInt8).toNat = 45 ∧ 2 ^ (64 - 1) ≤ v.natAbs then _ else if (45 : UInt8).toNat = 45 ∧ 2 ^ (64 - 1) < v.natAbs then _ else Lib.NumEnd.ok (if (45 : UInt8).toNat = 45 then -(v.natAbs : Int) else v.natAbs)) = _
    rw [if_neg (fun q => q.1 rfl), if_neg (by rw [e63]; omega), if_pos (show (45 : UInt8).toNat = 45 from rfl)]
    congr 1
    omega
  · rw [if_neg c, List.nil_append]
    generalize hd : dig 20 v.natAbs = d at *
    cases d with
    | nil => simp at d1
    | cons b r =>
      have hb := d2 b (by simp)
      rw [Lib.parseIntB]
      simp only [if_neg (show ¬ (b.toNat = 43 ∨ b.toNat = 45) by omega), hp]
      show (if ¬ b.toNat = 45 ∧ 2 ^ (64 - 1) ≤ v.natAbs then _ else if b.toNat = 45 ∧ 2 ^ (64 - 1) < v.natAbs then _ else Lib.NumEnd.ok (if b.toNat = 45 then -(v.natAbs : Int) else v.natAbs)) = _
      rw [if_neg (by rw [e63]; omega), if_neg (by omega), if_neg (by omega)]
      congr 1
      omega
theorem numIs_length {l : List UInt8} {v : Int} {most : Int} (h : NumIs most l v) : (l.length : Int) ≤ most + 1 := by
  obtain ⟨b, d, s, k, _⟩ := h
  have := k.most
  rcases s with ⟨_, rfl⟩ | ⟨_, rfl, _⟩
  · simp; omega
  · omega
theorem b64_numIs {v : Int} (h : B64 v) : NumIs 19 (digI v) v := by
  have e : (10 : Nat) ^ 19 = 10000000000000000000 := by decide
  exact dig_numIs h 19 (by unfold B64 at h; rw [e]; omega) (by omega) (by omega) (by omega)
theorem valK_lt : ∀ (d : List UInt8), (∀ k, k < d.length → (d.getD k 0).toNat ≤ 57) → ∀ k, k ≤ d.length → valK d k < 10 ^ k
  | d, h, 0, _ => by simp [valK]
  | d, h, k + 1, hk => by
    have ih := valK_lt d h k (by omega)
    have := h k (by omega)
    rw [valK, Nat.pow_succ]
    omega
/-- A number of 18 digits at most. -/
theorem numIs_short {l : List UInt8} {v : Int} (h : NumIs 19 l v) : NumIs 18 l v ↔ (-1000000000000000000 < v ∧ v < 1000000000000000000) := by
  constructor
  · rintro ⟨b, d, s, k, rfl⟩
    have h1 := valK_lt d (fun j hj => (k.digs j hj).2) d.length (Nat.le_refl _)
    have h2 : (10 : Nat) ^ d.length ≤ 10 ^ 18 := Nat.pow_le_pow_right (by decide) (by have := k.most; omega)
    have e : (10 : Nat) ^ 18 = 1000000000000000000 := by decide
    rw [e] at h2
    split <;> omega
  · intro hv
    have e1 := numIs_dig h (by omega)
    rw [e1]
    have e : (10 : Nat) ^ 18 = 1000000000000000000 := by decide
    exact dig_numIs (numIs_b64 h) 18 (by rw [e]; omega) (by omega) (by omega) (by omega)
theorem numIs_up {l : List UInt8} {v : Int} (h : NumIs 18 l v) : NumIs 19 l v := by
  obtain ⟨b, d, s, k, e⟩ := h
  exact ⟨b, d, s, ⟨k.pos, by have := k.most; omega, k.lead, k.digs, k.fits⟩, e⟩

def unw (ws : List (List UInt8)) : List UInt8 := ws.flatMap (fun y => 32 :: y)
/-- What is ahead of the first blank, and the rest from the blank on. -/
def cutA (l : List UInt8) : List UInt8 := l.takeWhile (fun b => ! (b == 32))
def cutB (l : List UInt8) : List UInt8 := l.dropWhile (fun b => ! (b == 32))
theorem cut_app (l : List UInt8) : cutA l ++ cutB l = l := List.takeWhile_append_dropWhile
theorem cut_unw : ∀ (t : List UInt8) (ws : List (List UInt8)), ¬ (32 : UInt8) ∈ t → cutA (t ++ unw ws) = t ∧ cutB (t ++ unw ws) = unw ws
  | [], ws, _ => by
    cases ws with
    | nil => exact ⟨rfl, rfl⟩
    | cons y ws => exact ⟨by simp [cutA, unw], by simp [cutB, unw]⟩
  | b :: t, ws, h => by
    have hb : ¬ b = 32 := fun e => h (by simp [e])
    have ih := cut_unw t ws (fun e => h (by simp [e]))
    unfold cutA cutB at ih ⊢
    simp only [List.cons_append, List.takeWhile_cons, List.dropWhile_cons, beq_iff_eq, hb, Bool.not_eq_true', beq_eq_false_iff_ne, ne_eq, not_false_eq_true, if_true]
    exact ⟨by rw [ih.1], ih.2⟩
theorem unw_inj {ws us : List (List UInt8)} (hw : ∀ y ∈ ws, ¬ (32 : UInt8) ∈ y) (hu : ∀ y ∈ us, ¬ (32 : UInt8) ∈ y) (h : unw ws = unw us) : ws = us := by
  have h1 := split_flat 32 ws [] (by simp) hw
  have h2 := split_flat 32 us [] (by simp) hu
  have h' : ws.flatMap (fun y => (32 : UInt8) :: y) = us.flatMap (fun y => (32 : UInt8) :: y) := h
  rw [h', h2] at h1
  exact (List.cons.inj h1).2.symm

section
variable {σ : Type} (st : σ → UInt8 → Int → σ)
/-- How many digits a field's number may have. -/
def mx (c : UInt8) : Int := if c = 78 then 19 else 18
def FitG : List UInt8 → List UInt8 → σ → σ → Prop
  | [], l, s, s' => l = [] ∧ s' = s
  | c :: F, l, s, s' => if capB c = true then ∃ v, NumIs (mx c) (cutA l) v ∧ FitG F (cutB l) (st s c v) s' else ∃ r, l = c :: r ∧ FitG F r s s'
theorem fitG_cap {c : UInt8} {F l : List UInt8} {s s' : σ} (h : capB c = true) : FitG st (c :: F) l s s' ↔ ∃ v, NumIs (mx c) (cutA l) v ∧ FitG st F (cutB l) (st s c v) s' := by rw [FitG, if_pos h]
theorem fitG_not {c : UInt8} {F l : List UInt8} {s s' : σ} (h : ¬ capB c = true) : FitG st (c :: F) l s s' ↔ ∃ r, l = c :: r ∧ FitG st F r s s' := by rw [FitG, if_neg h]
/-- Fixed text reads itself. -/
theorem fitG_text : ∀ {T F l : List UInt8} {s s' : σ}, (∀ c ∈ T, ¬ capB c = true) → (FitG st (T ++ F) l s s' ↔ ∃ r, l = T ++ r ∧ FitG st F r s s')
  | [], F, l, s, s', _ => by simp
  | c :: T, F, l, s, s', h => by
    rw [List.cons_append, fitG_not st (h c (by simp))]
    constructor
    · rintro ⟨r, rfl, k⟩
      obtain ⟨r', rfl, k2⟩ := (fitG_text (fun b hb => h b (by simp [hb]))).1 k
      exact ⟨r', rfl, k2⟩
    · rintro ⟨r, rfl, k⟩
      exact ⟨T ++ r, rfl, (fitG_text (fun b hb => h b (by simp [hb]))).2 ⟨r, rfl, k⟩⟩
/-- A blank, a mark, and a number: the next word. -/
theorem fitG_word {m : List UInt8} (hm : m = [] ∨ m = [114] ∨ m = [103]) {c : UInt8} (hc : capB c = true) {F : List UInt8} {ws : List (List UInt8)} (hw : ∀ y ∈ ws, ¬ (32 : UInt8) ∈ y) {s s' : σ} :
    FitG st (32 :: (m ++ c :: F)) (unw ws) s s' ↔ ∃ u ws' v, ws = (m ++ u) :: ws' ∧ NumIs (mx c) u v ∧ FitG st F (unw ws') (st s c v) s' := by
  have h32 : ¬ capB 32 = true := by decide
  have hmc : ∀ b ∈ m, ¬ capB b = true := by rcases hm with rfl | rfl | rfl <;> decide
  rw [fitG_not st h32]
  constructor
  · rintro ⟨r, e, k⟩
    cases ws with
    | nil => simp [unw] at e
    | cons t ws =>
      have e' : t ++ unw ws = r := by simpa [unw] using e
      obtain ⟨r', e2, k⟩ := (fitG_text st hmc).1 k
      rw [fitG_cap st hc] at k
      obtain ⟨v, n, k⟩ := k
      have ht : ∃ u, t = m ++ u ∧ r' = u ++ unw ws := by
        rcases hm with rfl | rfl | rfl
        · exact ⟨t, rfl, by rw [e', e2]; rfl⟩
        · cases t with
          | nil =>
            exfalso
            rw [← e', List.nil_append] at e2
            cases ws with
            | nil => simp [unw] at e2
            | cons y ws => have := (List.cons.inj (show 32 :: (y ++ unw ws) = 114 :: r' from e2)).1; exact absurd this (by decide)
          | cons b t =>
            rw [← e'] at e2
            obtain ⟨rfl, e3⟩ := List.cons.inj (show b :: (t ++ unw ws) = 114 :: r' from e2)
            exact ⟨t, rfl, e3.symm⟩
        · cases t with
          | nil =>
            exfalso
            rw [← e', List.nil_append] at e2
            cases ws with
            | nil => simp [unw] at e2
            | cons y ws => have := (List.cons.inj (show 32 :: (y ++ unw ws) = 103 :: r' from e2)).1; exact absurd this (by decide)
          | cons b t =>
            rw [← e'] at e2
            obtain ⟨rfl, e3⟩ := List.cons.inj (show b :: (t ++ unw ws) = 103 :: r' from e2)
            exact ⟨t, rfl, e3.symm⟩
      obtain ⟨u, rfl, rfl⟩ := ht
      have hu : ¬ (32 : UInt8) ∈ u := fun q => hw (m ++ u) (by simp) (by simp [q])
      obtain ⟨c1, c2⟩ := cut_unw u ws hu
      rw [c1] at n
      rw [c2] at k
      exact ⟨u, ws, v, rfl, n, k⟩
  · rintro ⟨u, ws', v, rfl, n, k⟩
    have hu : ¬ (32 : UInt8) ∈ u := fun q => hw (m ++ u) (by simp) (by simp [q])
    obtain ⟨c1, c2⟩ := cut_unw u ws' hu
    refine ⟨m ++ u ++ unw ws', rfl, (fitG_text st hmc).2 ⟨u ++ unw ws', by rw [List.append_assoc], ?_⟩⟩
    rw [fitG_cap st hc]
    exact ⟨v, by rw [c1]; exact n, by rw [c2]; exact k⟩
end
/-- A field's number is set. -/
def setC (i : Ins) (c : UInt8) (v : Int) : Ins := if c = 65 then { i with a := v } else if c = 66 then { i with b := v } else if c = 67 then { i with c := v } else { i with n := v }
/-- A letter's fields. -/
def pieceT (f : UInt8) : List UInt8 := if f = 78 then [32, 78] else if f = 68 then [32, 103, 67] else [32, 114, f]
def Letter (f : UInt8) : Prop := f = 65 ∨ f = 66 ∨ f = 67 ∨ f = 68 ∨ f = 78
/-- Words read by letters. -/
def ReadW : List UInt8 → List (List UInt8) → Ins → Ins → Prop
  | [], ws, i, j => ws = [] ∧ j = i
  | f :: F, ws, i, j => ∃ t ws' v, ws = t :: ws' ∧ NumF f t v ∧ ReadW F ws' (setF i f v) j
theorem fit_ins : ∀ (F : List UInt8), (∀ f ∈ F, Letter f) → ∀ (ws : List (List UInt8)), (∀ y ∈ ws, ¬ (32 : UInt8) ∈ y) → ∀ i j, FitG setC (F.flatMap pieceT) (unw ws) i j ↔ ReadW F ws i j
  | [], _, ws, _, i, j => by
    constructor
    · rintro ⟨h1, h2⟩
      refine ⟨?_, h2⟩
      cases ws with
      | nil => rfl
      | cons y ws => simp [unw] at h1
    · rintro ⟨rfl, h2⟩
      exact ⟨rfl, h2⟩
  | f :: F, hF, ws, hw, i, j => by
    have ih := fun ws hw => fit_ins F (fun x hx => hF x (by simp [hx])) ws hw
    have key : ∀ (m : List UInt8) (c : UInt8), (m = [] ∨ m = [114] ∨ m = [103]) → capB c = true → pieceT f = 32 :: (m ++ [c]) → (∀ v, setC i c v = setF i f v) → (∀ t v, NumF f t v ↔ ∃ u, t = m ++ u ∧ NumIs (mx c) u v) → (FitG setC ((f :: F).flatMap pieceT) (unw ws) i j ↔ ReadW (f :: F) ws i j) := by
      intro m c hm hc hp hs hn
      rw [List.flatMap_cons, hp, show 32 :: (m ++ [c]) ++ F.flatMap pieceT = 32 :: (m ++ c :: F.flatMap pieceT) by simp, fitG_word setC hm hc hw]
      constructor
      · rintro ⟨u, ws', v, rfl, n, k⟩
        refine ⟨m ++ u, ws', v, rfl, (hn _ _).2 ⟨u, rfl, n⟩, ?_⟩
        rw [← hs]
        exact (ih ws' (fun y hy => hw y (by simp [hy])) _ _).1 k
      · rintro ⟨t, ws', v, rfl, n, k⟩
        obtain ⟨u, rfl, n2⟩ := (hn _ _).1 n
        refine ⟨u, ws', v, rfl, n2, ?_⟩
        rw [hs]
        exact (ih ws' (fun y hy => hw y (by simp [hy])) _ _).2 k
    rcases hF f (by simp) with rfl | rfl | rfl | rfl | rfl
    · exact key [114] 65 (by simp) rfl rfl (fun v => rfl) (fun t v => Iff.rfl)
    · exact key [114] 66 (by simp) rfl rfl (fun v => rfl) (fun t v => Iff.rfl)
    · exact key [114] 67 (by simp) rfl rfl (fun v => rfl) (fun t v => Iff.rfl)
    · exact key [103] 67 (by simp) rfl rfl (fun v => rfl) (fun t v => Iff.rfl)
    · refine key [] 78 (by simp) rfl rfl (fun v => rfl) (fun t v => ?_)
      constructor
      · intro n; exact ⟨t, rfl, n⟩
      · rintro ⟨u, rfl, n⟩; exact n
theorem readW_snoc : ∀ (F : List UInt8) (ws : List (List UInt8)) (f : UInt8) (t : List UInt8) (i j : Ins), F.length = ws.length → (ReadW (F ++ [f]) (ws ++ [t]) i j ↔ ∃ i' v, ReadW F ws i i' ∧ NumF f t v ∧ j = setF i' f v)
  | [], ws, f, t, i, j, hl => by
    obtain rfl : ws = [] := List.length_eq_zero_iff.1 hl.symm
    constructor
    · rintro ⟨t', ws', v, e, n, rfl, rfl⟩
      obtain ⟨rfl, _⟩ := List.cons.inj e
      exact ⟨i, v, ⟨rfl, rfl⟩, n, rfl⟩
    · rintro ⟨i', v, ⟨_, rfl⟩, n, rfl⟩
      exact ⟨t, [], v, rfl, n, rfl, rfl⟩
  | g :: F, ws, f, t, i, j, hl => by
    cases ws with
    | nil => simp at hl
    | cons y ws =>
      have ih := fun i => readW_snoc F ws f t i j (by simpa using hl)
      constructor
      · rintro ⟨t', ws', v, e, n, k⟩
        obtain ⟨rfl, rfl⟩ := List.cons.inj (show y :: (ws ++ [t]) = t' :: ws' from e)
        obtain ⟨i', v', a, b, c⟩ := (ih _).1 k
        exact ⟨i', v', ⟨y, ws, v, rfl, n, a⟩, b, c⟩
      · rintro ⟨i', v', ⟨t', ws', v, e, n, a⟩, b, c⟩
        obtain ⟨rfl, rfl⟩ := List.cons.inj e
        exact ⟨y, ws ++ [t], v, rfl, n, (ih _).2 ⟨i', v', a, b, c⟩⟩
theorem readW_len : ∀ {F : List UInt8} {ws : List (List UInt8)} {i j : Ins}, ReadW F ws i j → ws.length = F.length
  | [], ws, i, j, h => by rw [h.1]; rfl
  | f :: F, ws, i, j, ⟨t, ws', v, e, _, k⟩ => by rw [e, List.length_cons, readW_len k, List.length_cons]
theorem readK_readW (F : List UInt8) (x : List UInt8) (ws : List (List UInt8)) (i : Ins) (hl : ws.length = F.length) : ∀ (k : Nat), k ≤ F.length → ∀ j, ReadK F (x :: ws) i k j ↔ ReadW (F.take k) (ws.take k) i j
  | 0, _, j => by
    constructor
    · intro h
      exact ⟨by simp, h⟩
    · rintro ⟨_, h⟩
      exact h
  | k + 1, hk, j => by
    have ih := readK_readW F x ws i hl k (by omega)
    have hf : F[k]? = some F[k] := List.getElem?_eq_getElem (by omega)
    have ht : ws[k]? = some (ws[k]'(by omega)) := List.getElem?_eq_getElem (by omega)
    rw [List.take_add_one, List.take_add_one, hf, ht]
    show _ ↔ ReadW (F.take k ++ [F[k]]) (ws.take k ++ [ws[k]'(by omega)]) i j
    rw [readW_snoc _ _ _ _ _ _ (by simp; omega)]
    constructor
    · rintro ⟨i', v, f, t, a, b, c, d, e⟩
      rw [hf] at b
      obtain rfl := Option.some.inj b
      have c' : ws[k]? = some t := by simpa using c
      rw [ht] at c'
      obtain rfl := Option.some.inj c'
      exact ⟨i', v, (ih i').1 a, d, e⟩
    · rintro ⟨i', v, a, d, e⟩
      exact ⟨i', v, _, _, (ih i').2 a, hf, by simp, d, e⟩
theorem lineIs_read {x : List UInt8} {ws : List (List UInt8)} {j : Ins} : LineIs (x :: ws) j ↔ ∃ o c, Real o c ∧ x = wordL o c ∧ ReadW (folL o) ws ⟨o, 0, 0, c, 0⟩ j := by
  constructor
  · rintro ⟨o, c, r, e, l, k⟩
    have hl : ws.length = (folL o).length := by simpa using l
    have := (readK_readW (folL o) x ws ⟨o, 0, 0, c, 0⟩ hl _ (Nat.le_refl _) j).1 k
    rw [List.take_length, ← hl, List.take_length] at this
    exact ⟨o, c, r, Option.some.inj e, this⟩
  · rintro ⟨o, c, r, rfl, k⟩
    have hl := readW_len k
    refine ⟨o, c, r, rfl, by simp [hl], (readK_readW (folL o) _ ws ⟨o, 0, 0, c, 0⟩ hl _ (Nat.le_refl _) j).2 ?_⟩
    rw [List.take_length, ← hl, List.take_length]
    exact k
theorem kind_real {y : Kd} (h : y ∈ kindsT) : Real y.2.1 y.2.2.1 ∧ wordL y.2.1 y.2.2.1 = y.1 ∧ y.2.2.2 = (folL y.2.1).flatMap pieceT := by
  have : ∀ y ∈ kindsT, ((1 ≤ y.2.1 ∧ y.2.1 ≤ 12 ∧ ¬ y.2.1 = 8 ∧ y.2.2.1 = 0) ∨ (y.2.1 = 8 ∧ 1 ≤ y.2.2.1 ∧ y.2.2.1 ≤ 4) ∨ (21 ≤ y.2.1 ∧ y.2.1 ≤ 30 ∧ y.2.2.1 = 0)) ∧ wordL y.2.1 y.2.2.1 = y.1 ∧ y.2.2.2 = (folL y.2.1).flatMap pieceT := by decide
  exact this y h
theorem real_kind {o c : Int} (h : Real o c) : ∃ y ∈ kindsT, y.2.1 = o ∧ y.2.2.1 = c := by
  obtain ⟨y, hy, f1, f2⟩ := kind_has (i := ⟨o, 0, 0, c, 0⟩) h.has (by unfold Real at h; show ¬ o = 0; omega)
  refine ⟨y, hy, f1, ?_⟩
  have f1 : y.2.1 = o := f1
  have f2 : y.2.2.1 = 0 ∨ y.2.2.1 = c := f2
  have r := (kind_real hy).1
  unfold Real at h r
  omega
theorem kind_one {y z : Kd} (hy : y ∈ kindsT) (hz : z ∈ kindsT) (e : y.1 = z.1) : y = z := by
  have : ∀ y ∈ kindsT, ∀ z ∈ kindsT, y.1 = z.1 → y = z := by decide
  exact this y hy z hz e
/-- An instruction's line, by the table. -/
theorem line_kind {x : List UInt8} {ws : List (List UInt8)} (hw : ∀ y ∈ ws, ¬ (32 : UInt8) ∈ y) {j : Ins} : LineIs (x :: ws) j ↔ ∃ y ∈ kindsT, y.1 = x ∧ FitG setC y.2.2.2 (unw ws) ⟨y.2.1, 0, 0, y.2.2.1, 0⟩ j := by
  rw [lineIs_read]
  have hl : ∀ o, ∀ f ∈ folL o, Letter f := fun o f hf => fol_letters o f hf
  constructor
  · rintro ⟨o, c, r, rfl, k⟩
    obtain ⟨y, hy, rfl, rfl⟩ := real_kind r
    refine ⟨y, hy, (kind_real hy).2.1.symm, ?_⟩
    rw [(kind_real hy).2.2, fit_ins _ (hl _) ws hw]
    exact k
  · rintro ⟨y, hy, rfl, k⟩
    rw [(kind_real hy).2.2, fit_ins _ (hl _) ws hw] at k
    exact ⟨_, _, (kind_real hy).1, (kind_real hy).2.1.symm, k⟩
/-- A region's line. -/
theorem line_reg {x : List UInt8} {ws : List (List UInt8)} (hw : ∀ y ∈ ws, ¬ (32 : UInt8) ∈ y) {sc : Bool} {s lg : Int} : RegIs (x :: ws) lg sc ↔ (x = rgnL ∧ FitG (fun _ _ v => v) (regF sc) (unw ws) s lg) := by
  have hF : regF sc = 32 :: ([] ++ 76 :: (32 :: secW sc)) := by cases sc <;> rfl
  have hs : ∀ c ∈ (32 :: secW sc ++ [] : List UInt8), ¬ capB c = true := by cases sc <;> decide
  have hs2 : ∀ c ∈ (32 :: secW sc : List UInt8), ¬ capB c = true := by cases sc <;> decide
  have h32 : ¬ (32 : UInt8) ∈ secW sc := by cases sc <;> decide
  rw [hF, fitG_word _ (.inl rfl) (by decide) hw]
  have key : ∀ ws' (v : Int), (∀ y ∈ ws', ¬ (32 : UInt8) ∈ y) → (FitG (fun _ _ v => v) (32 :: secW sc) (unw ws') v lg ↔ ws' = [secW sc] ∧ lg = v) := fun ws' v hw' => by
    have := fitG_text (fun (_ : Int) (_ : UInt8) (v : Int) => v) (T := 32 :: secW sc) (F := []) (l := unw ws') (s := v) (s' := lg) hs2
    rw [List.append_nil] at this
    rw [this]
    constructor
    · rintro ⟨r, e, rfl, e2⟩
      refine ⟨unw_inj hw' (fun y hy => by rw [List.mem_singleton.1 hy]; exact h32) ?_, e2⟩
      rw [e]
      simp [unw]
    · rintro ⟨rfl, rfl⟩
      exact ⟨[], by simp [unw], rfl, rfl⟩
  constructor
  · rintro ⟨t, e, n⟩
    obtain ⟨rfl, e2⟩ := List.cons.inj e
    subst e2
    exact ⟨rfl, t, [secW sc], lg, rfl, n, (key _ _ (fun y hy => hw y (by simp at hy; simp [hy]))).2 ⟨rfl, rfl⟩⟩
  · rintro ⟨rfl, u, ws', v, rfl, n, k⟩
    obtain ⟨rfl, rfl⟩ := (key ws' v (fun y hy => hw y (by simp [hy]))).1 k
    exact ⟨u, rfl, n⟩
/-- In this block lies a builder that holds these bytes; it and its row are of the call's own, from block B on. -/
def Bld (w : World) (B b : Nat) (l : List UInt8) : Prop := Lib.IsBuilderF 40 5 B b (Lib.byteCells l) w
/-- Blocks that are no builder of this kind and no row of bytes stay. -/
abbrev Oth (b : Nat) (w w' : World) : Prop := Lib.OthersKept 5 (some b) w w'

theorem bld_size : (Tryd.prog.info? 40).map (·.size) = some 2 := by kernel_rfl
theorem bld_lies : liesAt Tryd.prog Tryd.prog.depth 40 (2 / Tryd.prog.cellsOf 40) 0 40 1 = true := by kernel_rfl
theorem byte_info : (Tryd.prog.info? 5).map (fun i => (i.zero, i.size, i.bytes)) = some (some (.int .u8 0), 1, 1) := by kernel_rfl

/-- A pointer as a raw one, and back. -/
theorem raw_to {P : Program} (w : World) {src dst t e : TypeId} {j : TypeInfo} {n : Nat} (a : Addr) (hs : P.underlying src = some (.pointer t)) (hd : P.underlying dst = some .unsafePointer) (ht : P.info? t = some j) (hj : j.size ≠ 0) (hsh : w.shape? a.block = some (e, n)) (ho : a.off < n) :
    (convert src dst (.pointer (some a))).run P w = .ok (.pointer (some a)) w := by
  have hno : ¬ n = a.off := by omega
  simp [convert, run_underlying hs, run_underlying hd, Conv.unsafePointer, Conv.seenAt, viewAt, cellsIn, hsh, sizeOf, typeInfo, ht, hj]
  all_goals (intro q; omega)
theorem raw_from {P : Program} (w : World) {src dst u e : TypeId} {j : TypeInfo} {n : Nat} (a : Addr) (hs : P.underlying src = some .unsafePointer) (hd : P.underlying dst = some (.pointer u)) (hu : P.info? u = some j) (hsh : w.shape? a.block = some (e, n)) (hl : liesAt P P.depth e (n / P.cellsOf e) a.off u 1 = true) :
    (convert src dst (.pointer (some a))).run P w = .ok (.pointer (some a)) w := by
  simp [convert, run_underlying hs, run_underlying hd, Conv.unsafePointer, Conv.seenAt, viewAt, hsh, variablesAt, hl, sizeOf, typeInfo, hu]

set_option maxHeartbeats 1000000 in
set_option maxRecDepth 100000 in
theorem check_fresh (b : Nat) (w : World) (h0 : w.cell? ⟨b, 0, none⟩ = some (.pointer none)) (hsh : w.shape? b = some (40, 2)) (hfz : w.frozen? ⟨b, 0, none⟩ = false) :
    Calls Tryd.prog 27 #[.pointer (some ⟨b, 0, none⟩)] w fun e w' => e = .returned (.tuple #[]) ∧ w' = w.setCell ⟨b, 0, none⟩ (.pointer (some ⟨b, 0, none⟩)) := by
  obtain ⟨j, hj, hjs⟩ := Option.map_eq_some_iff.1 bld_size
  go_enter Tryd.func27, Tryd.ntmps27
  go_wp2
  rw [raw_to w ⟨b, 0, none⟩ Tryd.underlying37 Tryd.underlying82 hj (by rw [hjs]; decide) hsh (Nat.zero_lt_succ 1)]
  simp only [Result.andThen]
  rw [Oper.upon_value]
  go_wp2
  rw [run_callFunc_extern Tryd.func43 (by kernel_rfl) (by kernel_rfl) (by kernel_rfl) (e := Extern.AbiNoEscape.same) (by kernel_rfl)]
  rw [Lib.run_noEscape]
  simp only [Result.andThen]
  rw [Oper.upon_value]
  go_wp2
  rw [raw_from w ⟨b, 0, none⟩ Tryd.underlying82 Tryd.underlying37 hj hsh bld_lies]
  simp only [Result.andThen]
  rw [Oper.upon_value]
  go_wp2
  go_end0
  exact ⟨rfl, rfl⟩
set_option maxHeartbeats 1000000 in
set_option maxRecDepth 100000 in
theorem check_used (b : Nat) (w : World) (h0 : w.cell? ⟨b, 0, none⟩ = some (.pointer (some ⟨b, 0, none⟩))) :
    Calls Tryd.prog 27 #[.pointer (some ⟨b, 0, none⟩)] w fun e w' => e = .returned (.tuple #[]) ∧ w' = w := by
  obtain ⟨j, hj, hjs⟩ := Option.map_eq_some_iff.1 bld_size
  have hne : ∀ w1, (binOp .neq 37 (.pointer (some ⟨b, 0, none⟩)) (.pointer (some ⟨b, 0, none⟩))).run Tryd.prog w1 = .ok (.bool false) w1 := fun w1 => Lib.run_neq_ptr_same w1 ⟨b, 0, none⟩ Tryd.underlying37 hj
  go_enter Tryd.func27, Tryd.ntmps27
  go_wp2
  go_end0
  exact ⟨rfl, rfl⟩
theorem check_calls (B b : Nat) (bs : List Value) (w : World) (h : Lib.IsBuilderF 40 5 B b bs w) :
    Calls Tryd.prog 27 #[.pointer (some ⟨b, 0, none⟩)] w fun e w' => e = .returned (.tuple #[]) ∧ (Lib.BuilderAtF 40 5 B b (.pointer (some ⟨b, 0, none⟩)) bs w' ∧ Below B w w' ∧ Oth b w w') := by
  rcases h with h | h
  · refine (check_fresh b w h.cell0 h.shape h.frozen0).mono ?_
    rintro e w' ⟨rfl, rfl⟩
    exact ⟨rfl, h.used _, (Below.refl B w).setCell (p := ⟨b, 0, none⟩) h.1 _, (Lib.OthersKept.refl _ _ w).setCell ⟨b, 0, none⟩ rfl _⟩
  · refine (check_used b w h.cell0).mono ?_
    rintro e w' ⟨rfl, rfl⟩
    exact ⟨rfl, h, Below.refl B _, Lib.OthersKept.refl _ _ _⟩

theorem strCells_txt (l : List UInt8) : Lib.strCells (txt l) = Lib.byteCells l := rfl

set_option maxHeartbeats 2000000 in
set_option maxRecDepth 100000 in
theorem writes_calls (B b : Nat) (l m : List UInt8) (w : World) (h : Bld w B b l) (hlen : l.length + m.length ≤ 140737488355328) (hBw : B ≤ w.heap.size) :
    Calls Tryd.prog 14 #[.pointer (some ⟨b, 0, none⟩), .string (txt m)] w fun e w' => e = .returned (.tuple #[.int .i64 m.length, .nilIface]) ∧ Bld w' B b (l ++ m) ∧ Below B w w' ∧ Oth b w w' := by
  have hsz : (txt m).size = m.length := txt_size m
  have hll : (Lib.byteCells l).length = l.length := Lib.byteCells_length l
  obtain ⟨bs, Hbs⟩ : ∃ x, Hid (Lib.byteCells l = x) := ⟨_, rfl⟩
  obtain ⟨ms, Hms⟩ : ∃ x, Hid (txt m = x) := ⟨_, rfl⟩
  have HF : Hid (∀ w', Lib.BuilderAtF 40 5 B b (.pointer (some ⟨b, 0, none⟩)) (bs ++ Lib.strCells ms) w' → Bld w' B b (l ++ m)) := fun w' h' => by
    refine Or.inr ?_
    rw [Lib.byteCells_append, Hbs.out, ← strCells_txt, Hms.out]
    exact h'
  have h : Lib.IsBuilderF 40 5 B b bs w := Hbs.out ▸ h
  rw [Hbs.out] at hll
  rw [Hms.out] at hsz ⊢
  obtain ⟨i0, hi, hz0, hz1, hz2⟩ := info_parts byte_info
  go_enter Tryd.func14, Tryd.ntmps14
  go_wp2_with (go_at_call 27; refine (check_calls B b bs _ h).mono ?_)
  rintro e w1 ⟨rfl, h1, hb1, hk1⟩
  obtain ⟨hB, v, hbk, hown, hne⟩ := h1
  have c0 : w1.cell? ⟨b, 0, none⟩ = some (.pointer (some ⟨b, 0, none⟩)) := by rw [Lib.cell_of_heap hbk]; rfl
  have c1 : w1.cell? ⟨b, 1, none⟩ = some v := by rw [Lib.cell_of_heap hbk]; rfl
  go_wp2_with (at_builtin; refine Lib.wpList_append_own_stringF _ rfl _ _ 38 9 rfl B 5 i0 Tryd.underlying38 Tryd.underlying9 hi hz0 hz1 hz2 _ _ _ rfl hown ms rfl ?c3 ?c4 ?c5 ?_)
  case c3 => unfold maxLen; omega
  case c4 => omega
  case c5 => have := hb1.size; omega
  intro v' w2 hown' hgrow _
  have hlt : b < w1.heap.size := by
    rcases Nat.lt_or_ge b w1.heap.size with h' | h'
    · exact h'
    · simp [Array.getElem?_eq_none h'] at hbk
  have hb2 : w2.heap[b]? = some (.cells #[.pointer (some ⟨b, 0, none⟩), v] 40 (0, 0)) := by
    rw [hgrow.block b hlt (fun e => hne e.symm)]
    exact hbk
  have d0 : w2.cell? ⟨b, 0, none⟩ = some (.pointer (some ⟨b, 0, none⟩)) := by rw [Lib.cell_of_heap hb2]; rfl
  have d1 : w2.cell? ⟨b, 1, none⟩ = some v := by rw [Lib.cell_of_heap hb2]; rfl
  have f1 : w2.frozen? ⟨b, 1, none⟩ = false := Lib.frozen_of_heap hb2 1
  obtain ⟨ao, n', cap, rfl⟩ : ∃ ao n' cap, v' = .slice ao n' cap := by
    rcases hown'.2 with ⟨hv, _⟩ | ⟨g, cap, cur, fz, hv, _⟩
    · exact ⟨_, _, _, hv⟩
    · exact ⟨_, _, _, hv⟩
  go_wp2
  go_ret2
  refine ⟨rfl, HF.out _ ?_, ?_, (hk1.grown hgrow (Lib.ownsRowF_kind hown)).setCell ⟨b, 1, none⟩ rfl _⟩
  · exact Lib.BuilderAtF.put (T := 40) (e := 5) hB hb2 (bs' := bs ++ Lib.strCells ms) (by rw [List.length_append, Lib.strCells_length, hll, hsz]; exact hown') (by decide)
  · exact (hb1.grown hgrow (by have := hb1.size; omega) (fun k hk => (hown.lt k hk).1)).setCell (p := ⟨b, 1, none⟩) hB _

set_option maxHeartbeats 4000000 in
set_option maxRecDepth 100000 in
theorem rune_own (B : Nat) (v : Value) (n : Nat) (xs : List Value) (r : Int) (h0 : 0 ≤ r) (h1 : r ≤ 127) (w : World) (hown : w.ownsRowF B 5 1 v n xs) (hlen : n + 4 ≤ 140737488355328) (hBw : B ≤ w.heap.size) :
    Calls Tryd.prog 56 #[v, .int .i32 r] w fun e w' => ∃ v', e = .returned v' ∧ w'.ownsRowF B 5 1 v' (n + 1) (xs ++ [.int .u8 r]) ∧ ∃ o, (w.alloc o).grownBy w' v.ownBlock := by
  suffices hP : ∀ P : Ending → World → Prop, (∀ v' w', w'.ownsRowF B 5 1 v' (n + 1) (xs ++ [.int .u8 r]) → (∃ o, (w.alloc o).grownBy w' v.ownBlock) → P (.returned v') w') → Calls Tryd.prog 56 #[v, .int .i32 r] w P from hP _ (fun v' w' a b => ⟨v', rfl, a, b⟩)
  intro P hP0
  have HP : Hid (∀ v' w', w'.ownsRowF B 5 1 v' (n + 1) (xs ++ [.int .u8 r]) → (∃ o, (w.alloc o).grownBy w' v.ownBlock) → P (.returned v') w') := hP0
  clear hP0
  obtain ⟨i0, hi, hz0, hz1, hz2⟩ := info_parts byte_info
  go_enter Tryd.func56, Tryd.ntmps56
  go_wp2_with (at_builtin; refine wpList_append_ownF _ rfl _ _ 38 rfl B 5 i0 (.int .u8 0) 1 1 Tryd.underlying38 hi hz0 hz1 hz2 rfl (by decide) _ _ _ rfl (hown.alloc _) ⟨w.heap.size, 0, none⟩ 1 1 [.int .u8 r] rfl rfl ?c1 ?c2 ?c3 ?c4 ?c5 ?_)
  all_goals first
    | (intro v' w2 hown' hgrow _; have HE : Hid (P (.returned v') w2) := HP.out v' w2 hown' ⟨_, hgrow⟩; clear HP hown' hgrow; go_wp2; exact HE.out)
    | (unfold maxLen; omega)
    | omega
    | (simp; omega)
    | rfl
    | (intro u hu; simp at hu; subst hu; rfl)
    | (intro j u hj
       match j, hj with
       | 0, hj => simp at hj; subst hj; simp [Addr.add]
       | (j + 1), hj => simp at hj)

set_option maxHeartbeats 4000000 in
set_option maxRecDepth 100000 in
/-- A byte below 128 as a rune. -/
theorem rune_calls (B b : Nat) (l : List UInt8) (c : UInt8) (hc : c.toNat < 128) (w : World) (h : Bld w B b l) (hlen : l.length + 4 ≤ 140737488355328) (hBw : B ≤ w.heap.size) :
    Calls Tryd.prog 46 #[.pointer (some ⟨b, 0, none⟩), .int .i32 c.toNat] w fun e w' => e = .returned (.tuple #[.int .i64 1, .nilIface]) ∧ Bld w' B b (l ++ [c]) ∧ Below B w w' ∧ Oth b w w' := by
  suffices hP : ∀ P : Ending → World → Prop, (∀ w', Bld w' B b (l ++ [c]) → Below B w w' → Oth b w w' → P (.returned (.tuple #[.int .i64 1, .nilIface])) w') → Calls Tryd.prog 46 #[.pointer (some ⟨b, 0, none⟩), .int .i32 c.toNat] w P from hP _ (fun w' x y z => ⟨rfl, x, y, z⟩)
  intro P hP0
  have HP : Hid (∀ w', Bld w' B b (l ++ [c]) → Below B w w' → Oth b w w' → P (.returned (.tuple #[.int .i64 1, .nilIface])) w') := hP0
  clear hP0
  have hll : (Lib.byteCells l).length = l.length := Lib.byteCells_length l
  obtain ⟨bs, Hbs⟩ : ∃ x, Hid (Lib.byteCells l = x) := ⟨_, rfl⟩
  obtain ⟨r, Hr⟩ : ∃ x : Int, Hid ((c.toNat : Int) = x) := ⟨_, rfl⟩
  have HF : Hid (∀ w', Lib.BuilderAtF 40 5 B b (.pointer (some ⟨b, 0, none⟩)) (bs ++ [.int .u8 r]) w' → Bld w' B b (l ++ [c])) := fun w' h' => by
    refine Or.inr ?_
    rw [Lib.byteCells_append, Hbs.out]
    show Lib.BuilderAtF _ _ B b _ (bs ++ [.int .u8 c.toNat]) w'
    rw [Hr.out]
    exact h'
  have h : Lib.IsBuilderF 40 5 B b bs w := Hbs.out ▸ h
  rw [Hbs.out] at hll
  rw [← hll] at hlen
  clear hll
  have hr0 : 0 ≤ r := by rw [← Hr.out]; omega
  have hr1 : r ≤ 127 := by rw [← Hr.out]; omega
  rw [Hr.out]
  go_enter Tryd.func46, Tryd.ntmps46
  go_wp2_with (go_at_call 27; refine (check_calls B b bs _ h).mono ?_)
  rintro e w1 ⟨rfl, h1, hb1, hk1⟩
  obtain ⟨hB, v, hbk, hown, hne⟩ := h1
  obtain ⟨ao, cap, rfl⟩ : ∃ ao cap, v = .slice ao bs.length cap := by
    rcases hown.2 with ⟨hv, h0⟩ | ⟨g, cap, cur, fz, hv, _⟩
    · exact ⟨none, 0, by rw [hv, h0]⟩
    · exact ⟨_, _, hv⟩
  have c0 : w1.cell? ⟨b, 0, none⟩ = some (.pointer (some ⟨b, 0, none⟩)) := by rw [Lib.cell_of_heap hbk]; rfl
  have c1 : w1.cell? ⟨b, 1, none⟩ = some (.slice ao bs.length cap) := by rw [Lib.cell_of_heap hbk]; rfl
  go_wp2_with (go_at_call 56; refine (rune_own B _ bs.length bs r hr0 hr1 _ hown (by omega) (by have := hb1.size; omega)).mono ?_)
  rintro e w2 ⟨v', rfl, hown', o, hgrow⟩
  have hlt : b < w1.heap.size := by
    rcases Nat.lt_or_ge b w1.heap.size with h' | h'
    · exact h'
    · simp [Array.getElem?_eq_none h'] at hbk
  have hb2 : w2.heap[b]? = some (.cells #[.pointer (some ⟨b, 0, none⟩), .slice ao bs.length cap] 40 (0, 0)) := by
    rw [hgrow.block b (by simp; omega) (fun e => hne e.symm), Lib.alloc_old w1 _ b hlt]
    exact hbk
  have d0 : w2.cell? ⟨b, 0, none⟩ = some (.pointer (some ⟨b, 0, none⟩)) := by rw [Lib.cell_of_heap hb2]; rfl
  have d1 : w2.cell? ⟨b, 1, none⟩ = some (.slice ao bs.length cap) := by rw [Lib.cell_of_heap hb2]; rfl
  have f1 : w2.frozen? ⟨b, 1, none⟩ = false := Lib.frozen_of_heap hb2 1
  obtain ⟨g, cap', rfl⟩ : ∃ g cap', v' = .slice (some ⟨g, 0, none⟩) (bs.length + 1) cap' := by
    rcases hown'.2 with ⟨_, h0⟩ | ⟨g, cap', cur, fz, hv, _⟩
    · omega
    · exact ⟨g, cap', hv⟩
  have e1 : ((bs.length : Int) + 1 - (bs.length : Int)) = 1 := by omega
  have HE : Hid (P (.returned (.tuple #[.int .i64 1, .nilIface])) (w2.setCell ⟨b, 1, none⟩ (.slice (some ⟨g, 0, none⟩) (bs.length + 1) cap'))) := by
    refine HP.out _ (HF.out _ ?_) ?_ (((hk1.alloc _).grown hgrow (Lib.ownsRowF_kind (hown.alloc _))).setCell ⟨b, 1, none⟩ rfl _)
    · exact Lib.BuilderAtF.put (T := 40) (e := 5) hB hb2 (bs' := bs ++ [.int .u8 r]) (by simpa using hown') (by decide)
    · exact ((hb1.alloc (by have := hb1.size; omega) _).grown hgrow (by have := hb1.size; simp; omega) (fun k hk => (hown.lt k hk).1)).setCell (p := ⟨b, 1, none⟩) hB _
  clear HP HF hown hown' hgrow hk1 hb1 hbk hb2 h
  go_wp2
  exact HE.out

theorem string_calls (B b : Nat) (l : List UInt8) (w : World) (h : Bld w B b l) (hBw : B ≤ w.heap.size) :
    Calls Tryd.prog 17 #[.pointer (some ⟨b, 0, none⟩)] w fun e w' => e = .returned (.string (txt l)) ∧ Bld w' B b l ∧ Below B w w' ∧ Oth b w w' :=
  Any.Builder_String_any_k Tryd.lays169 Tryd.Builder_Extra_169 B b l w h hBw
theorem bld_fresh (w : World) : Bld (w.alloc (.cells #[.pointer none, .slice none 0 0] 40)) w.heap.size w.heap.size [] := Lib.IsBuilderF.of (Lib.fresh_isBuilder _ _ w)
theorem Bld.alloc {w : World} {B b : Nat} {l : List UInt8} (h : Bld w B b l) (o : Obj) : Bld (w.alloc o) B b l := Lib.IsBuilderF.alloc h o
end
section
open Go.RowKit
set_option linter.unusedSimpArgs false
set_option linter.unusedVariables false
set_option maxRecDepth 8000
/-- The tables of the program and of the library that a text is written by, as they are laid. -/
structure Lai (w : World) : Prop where
  kinds : ∃ t fz, w.heap[0]? = some (.cells kindsC.toArray t fz)
  pow : ∃ t fz, w.heap[2]? = some (.cells (Lib.pow10Tab.map fun z => Value.int .u64 z).toArray t fz)
theorem heap_more {w w' : World} (m : More w w') {g : Nat} {o : Obj} (h : w.heap[g]? = some o) : w'.heap[g]? = some o := (m.block g (Array.getElem?_eq_some_iff.1 h).1).trans h
theorem Lai.more {w w' : World} (h : Lai w) (m : More w w') : Lai w' := by
  obtain ⟨⟨t, fz, a⟩, ⟨t', fz', b⟩⟩ := h
  exact ⟨⟨t, fz, heap_more m a⟩, ⟨t', fz', heap_more m b⟩⟩

theorem capital_calls (c : UInt8) (w : World) : Calls Tryd.prog 44 #[.int .i32 c.toNat] w fun e w' => e = .returned (.bool (capB c)) ∧ w' = w := by
  suffices hP : ∀ P : Ending → World → Prop, P (.returned (.bool (capB c))) w → Calls Tryd.prog 44 #[.int .i32 c.toNat] w P from hP _ ⟨rfl, rfl⟩
  intro P hP
  obtain ⟨b, Hb⟩ : ∃ b, Hid (capB c = b) := ⟨_, rfl⟩
  rw [Hb.out] at hP
  have HP : Hid (P (.returned (.bool b)) w) := hP
  have hb : b = decide (65 ≤ c.toNat ∧ c.toNat ≤ 90) := Hb.out.symm
  obtain ⟨n, Hn⟩ : ∃ n : Nat, Hid (c.toNat = n) := ⟨_, rfl⟩
  rw [Hn.out] at hb ⊢
  clear hP Hn Hb
  by_cases h1 : 65 ≤ n
  · by_cases h2 : n ≤ 90
    · have e1 : (65 : Int) ≤ n := by omega
      have e2 : (n : Int) ≤ 90 := by omega
      have hb1 : b = true := by rw [hb]; simp [h1, h2]
      clear hb
      subst hb1
      clear h1 h2
      go_enter Tryd.func44, Tryd.ntmps44
      go_wp2
      exact HP.out
    · have e1 : (65 : Int) ≤ n := by omega
      have e2 : ¬ (n : Int) ≤ 90 := by omega
      have hb1 : b = false := by rw [hb]; simp [h1, h2]
      clear hb
      subst hb1
      clear h1 h2
      go_enter Tryd.func44, Tryd.ntmps44
      go_wp2
      exact HP.out
  · have e1 : ¬ (65 : Int) ≤ n := by omega
    have hb1 : b = false := by rw [hb]; simp [h1]
    clear hb
    subst hb1
    clear h1
    go_enter Tryd.func44, Tryd.ntmps44
    go_wp2
    exact HP.out

theorem format_calls (n : Int) (hn : B64 n) (w : World) (h : Lai w) : Calls Tryd.prog 45 #[.int .i64 n, .int .i64 10] w fun e w' => e = .returned (.string (txt (digI n))) ∧ More w w' := by
  obtain ⟨t, fz, hp⟩ := h.pow
  refine (Any.strconv_FormatInt_10 Tryd.laysM173 n hn.1 hn.2 w ?_).mono ?_
  · show World.var? _ _ _ = _
    unfold World.var?
    rw [show Tryd.prog.globalNamed _ = some 2 by kernel_rfl]
    show (match w.heap[2]? with | some (.cells cs _ _) => some cs | _ => none) = _
    rw [hp]
  · rintro e w' ⟨rfl, k, os, rfl⟩
    refine ⟨by rw [itoa_dig hn], ?_⟩
    exact ⟨rfl, rfl, rfl, by simp [Sort.grow], fun i hi => by simp [Sort.grow, Array.getElem?_append, hi]⟩

theorem tellR_calls (lg : Int) (sec : Bool) (b : Nat) (c : UInt8) (w : World) (h : Blk w b #[.int .i64 lg, .bool sec] 42) :
    Calls Tryd.prog 29 #[.int .i32 c.toNat, .pointer (some ⟨b, 0, none⟩)] w fun e w' => e = .returned (.int .i64 lg) ∧ w' = w := by
  have c0 : w.cell? ⟨b, 0, none⟩ = some (.int .i64 lg) := h.cell rfl
  clear h
  go_enter Tryd.func29, Tryd.ntmps29
  go_wp2
  go_ret
  exact ⟨rfl, rfl⟩
theorem tellI_calls (i : Ins) (b : Nat) (c : UInt8) (w : World) (h : Blk w b #[.int .i64 i.op, .int .i64 i.a, .int .i64 i.b, .int .i64 i.c, .int .i64 i.n] 49) :
    Calls Tryd.prog 31 #[.int .i32 c.toNat, .pointer (some ⟨b, 0, none⟩)] w fun e w' => e = .returned (.int .i64 (tellI i c)) ∧ w' = w := by
  suffices hP : ∀ P : Ending → World → Prop, P (.returned (.int .i64 (tellI i c))) w → Calls Tryd.prog 31 #[.int .i32 c.toNat, .pointer (some ⟨b, 0, none⟩)] w P from hP _ ⟨rfl, rfl⟩
  intro P hP
  have c1 : w.cell? ⟨b, 1, none⟩ = some (.int .i64 i.a) := h.cell rfl
  have c2 : w.cell? ⟨b, 2, none⟩ = some (.int .i64 i.b) := h.cell rfl
  have c3 : w.cell? ⟨b, 3, none⟩ = some (.int .i64 i.c) := h.cell rfl
  have c4 : w.cell? ⟨b, 4, none⟩ = some (.int .i64 i.n) := h.cell rfl
  obtain ⟨op, a, b', c', n⟩ := i
  simp only at c1 c2 c3 c4
  clear h
  have hne : ∀ k : UInt8, ¬ c = k → ¬ (c.toNat : Int) = k.toNat := fun k h e => h (UInt8.toNat_inj.1 (by omega))
  by_cases e1 : c = 65
  · subst e1
    have HP : Hid (P (.returned (.int .i64 a)) w) := hP
    clear hP hne
    go_enter Tryd.func31, Tryd.ntmps31
    go_wp2
    exact HP.out
  by_cases e2 : c = 66
  · subst e2
    have HP : Hid (P (.returned (.int .i64 b')) w) := hP
    clear hP hne
    go_enter Tryd.func31, Tryd.ntmps31
    go_wp2
    exact HP.out
  by_cases e3 : c = 67
  · subst e3
    have HP : Hid (P (.returned (.int .i64 c')) w) := hP
    clear hP hne
    go_enter Tryd.func31, Tryd.ntmps31
    go_wp2
    exact HP.out
  · have f1 : ¬ (c.toNat : Int) = 65 := hne 65 e1
    have f2 : ¬ (c.toNat : Int) = 66 := hne 66 e2
    have f3 : ¬ (c.toNat : Int) = 67 := hne 67 e3
    have HP : Hid (P (.returned (.int .i64 n)) w) := by
      unfold tellI at hP
      rw [if_neg e1, if_neg e2, if_neg e3] at hP
      exact hP
    clear hP hne e1 e2 e3
    obtain ⟨m, Hm⟩ : ∃ m : Nat, Hid (c.toNat = m) := ⟨_, rfl⟩
    rw [Hm.out] at f1 f2 f3 ⊢
    go_enter Tryd.func31, Tryd.ntmps31
    go_wp2
    exact HP.out
theorem own_moreF {w w' : World} {B : Nat} {e : TypeId} {v : Value} {n : Nat} {xs : List Value} (h : w.ownsRowF B e 1 v n xs) (m : More w w') : w'.ownsRowF B e 1 v n xs := by
  refine ⟨h.1, ?_⟩
  rcases h.2 with a | ⟨g, cap, cur, fz, hv, hb, hg, r⟩
  · exact .inl a
  · exact .inr ⟨g, cap, cur, fz, hv, hb, heap_more m hg, r⟩
theorem bld_more {w w' : World} {B b : Nat} {l : List UInt8} (h : Bld w B b l) (m : More w w') : Bld w' B b l := by
  rcases h with ⟨hB, v, hb, ho, hn⟩ | ⟨hB, v, hb, ho, hn⟩
  · exact .inl ⟨hB, v, heap_more m hb, own_moreF ho m, hn⟩
  · exact .inr ⟨hB, v, heap_more m hb, own_moreF ho m, hn⟩
theorem hid_tb {P : Prop} (h : P) : Hid P := h
theorem txt_decode {F : List UInt8} {k : Nat} {c : UInt8} (h : F[k]? = some c) (hc : c.toNat < 128) (hk : k < (txt F).size) : Utf8.decode (txt F) k = (c.toNat, 1) := by
  have e : (txt F)[k]'hk = c := txt_get h hk
  have := decode_ascii (txt F) k hk (by rw [e]; exact hc)
  rw [this, e]

set_option maxHeartbeats 4000000 in
set_option maxRecDepth 1000000 in
/-- What is written for fields: fn is a closure's function that tells a capital's number. -/
theorem written_calls (F : List UInt8) (hF : ∀ c ∈ F, c.toNat < 128) (hl : F.length ≤ 1000) (tl : UInt8 → Int) (htl : ∀ c, B64 (tl c)) (fn : Nat) (cp : Value) (w : World) (hw : Lai w)
    (hent : ∀ args w, (callFunc fn args).run Tryd.prog w = .ok (.enter fn args) w) (hfn : ∀ c w1, More w w1 → Calls Tryd.prog fn #[.int .i32 c.toNat, cp] w1 fun e w' => e = .returned (.int .i64 (tl c)) ∧ w' = w1) :
    Calls Tryd.prog 28 #[.string (txt F), .func (.func fn) #[] #[cp]] w fun e w' => e = .returned (.string (txt (writL tl F))) ∧ More w w' := by
  suffices hP : ∀ P : Ending → World → Prop, (∀ w', More w w' → P (.returned (.string (txt (writL tl F)))) w') → Calls Tryd.prog 28 #[.string (txt F), .func (.func fn) #[] #[cp]] w P from hP _ (fun w' m => ⟨rfl, m⟩)
  intro P hP0
  have HP : Hid (∀ w', More w w' → P (.returned (.string (txt (writL tl F)))) w') := hP0
  have HL : Hid (Lai w) := hw
  have Hfn : Hid (∀ c w1, More w w1 → Calls Tryd.prog fn #[.int .i32 c.toNat, cp] w1 fun e w' => e = .returned (.int .i64 (tl c)) ∧ w' = w1) := hfn
  have HF : Hid (∀ c ∈ F, c.toNat < 128) := hF
  have Hsz : Hid ((txt F).size = F.length) := txt_size F
  have Htl : Hid (∀ c, B64 (tl c)) := htl
  clear hP0 hw hfn hF htl
  have Hdec : Hid (∀ k c, F[k]? = some c → Utf8.decode (txt F) k = (c.toNat, 1)) := fun k c h => txt_decode h (HF.out c (List.mem_of_getElem? h)) (by rw [Hsz.out]; exact (List.getElem?_eq_some_iff.1 h).1)
  obtain ⟨ss, Hss⟩ : ∃ x, Hid (txt F = x) := ⟨_, rfl⟩
  rw [Hss.out] at Hsz Hdec ⊢
  go_enter Tryd.func28, Tryd.ntmps28
  go_wp2
  go_loopw [] (fun wr => ∃ pos : Nat, pos ≤ F.length ∧ Bld wr w.heap.size w.heap.size (writL tl (F.take pos)) ∧ wr.heap[w.heap.size + 1]? = some (.stringIter ss pos) ∧ More w wr) (fun wr => ss.size - wr.iterPos (w.heap.size + 1))
  case atStart =>
    refine ⟨0, Nat.zero_le _, (bld_fresh w).alloc _, ?_, ((Below.refl _ w).alloc (Nat.le_refl _) _).alloc (by simp) _⟩
    have := World.iter_heap (w.alloc (.cells #[.pointer none, .slice none 0 0] 40)) ss 0
    simpa using this
  case round =>
    obtain ⟨pos, hpl, hI, hit, hbw⟩ := hrel
    have hsz : w.heap.size + 1 < wr.heap.size := (Array.getElem?_eq_some_iff.1 hit).1
    by_cases hp : pos < F.length
    · obtain ⟨c, hc⟩ : ∃ c, F[pos]? = some c := ⟨F[pos], List.getElem?_eq_getElem hp⟩
      have hd := Hdec.out pos c hc
      have hnx : ∀ ty, (Instr.next (.pointer (some ⟨w.heap.size + 1, 0, none⟩)) true ty).run Tryd.prog wr = .ok (.tuple #[.bool true, .int .i64 pos, .int .i32 c.toNat]) (wr.iterAt (w.heap.size + 1) ss (pos + 1)) := fun ty => by
        rw [Lib.run_next_any_at wr (w.heap.size + 1) ss pos ty hit (by rw [Hsz.out]; exact hp), hd]
      obtain ⟨W, HW⟩ : ∃ w_ : World, Hid (w_ = wr.iterAt (w.heap.size + 1) ss (pos + 1)) := ⟨_, rfl⟩
      have HI : Hid (Bld W w.heap.size w.heap.size (writL tl (F.take pos))) := HW.out ▸ Lib.IsBuilderF.iterAt hI hit (pos + 1)
      have Hit : Hid (W.heap[w.heap.size + 1]? = some (.stringIter ss (pos + 1))) := HW.out ▸ Lib.iterAt_heap wr (w.heap.size + 1) ss pos (pos + 1) hit
      have Hm : Hid (More w W) := HW.out ▸ Lib.below_iterAt hbw (k := w.heap.size + 1) (by omega) ss (pos + 1)
      have Hwl : Hid ((writL tl (F.take pos)).length ≤ 21000) := by
        have h1 := writL_length tl (F.take pos)
        have h2 : (F.take pos).length ≤ F.length := by simp; omega
        show _ ≤ _
        omega
      have Hnext : Hid (writL tl (F.take (pos + 1)) = writL tl (F.take pos) ++ (if capB c then digI (tl c) else [c])) := writL_take tl F pos c hc
      have Hip : Hid (wr.iterPos (w.heap.size + 1) = pos) := by show _ = _; simp [World.iterPos, hit]
      have Hc : Hid (c.toNat < 128) := HF.out c (List.mem_of_getElem? hc)
      rw [← HW.out] at hnx
      have Hit0 : Hid (wr.heap[w.heap.size + 1]? = some (.stringIter ss pos)) := hit
      clear hI hit hbw hd hsz HW
      have CC : Hid (Calls Tryd.prog 44 #[.int .i32 c.toNat] W fun e w' => e = .returned (.bool (capB c)) ∧ w' = W) := capital_calls c W
      obtain ⟨cn, Hcn⟩ : ∃ x : Nat, Hid (c.toNat = x) := ⟨_, rfl⟩
      obtain ⟨cb, Hcb⟩ : ∃ x, Hid (capB c = x) := ⟨_, rfl⟩
      have Ht : Hid (∀ w1, More w w1 → Calls Tryd.prog fn #[.int .i32 cn, cp] w1 fun e w' => e = .returned (.int .i64 (tl c)) ∧ w' = w1) := fun w1 m => by rw [← Hcn.out]; exact Hfn.out c w1 m
      have Hw1 : Hid (∀ w1, Bld w1 w.heap.size w.heap.size (writL tl (F.take pos)) → w.heap.size ≤ w1.heap.size → Calls Tryd.prog 46 #[.pointer (some ⟨w.heap.size, 0, none⟩), .int .i32 cn] w1 fun e w' => e = .returned (.tuple #[.int .i64 1, .nilIface]) ∧ Bld w' w.heap.size w.heap.size (writL tl (F.take pos) ++ [c]) ∧ Below w.heap.size w1 w' ∧ Oth w.heap.size w1 w') := fun w1 h1 h2 => by
        rw [← Hcn.out]
        exact rune_calls w.heap.size w.heap.size _ c Hc.out w1 h1 (by have := Hwl.out; omega) h2
      have Hw2 : Hid (∀ w1, Bld w1 w.heap.size w.heap.size (writL tl (F.take pos)) → w.heap.size ≤ w1.heap.size → Calls Tryd.prog 14 #[.pointer (some ⟨w.heap.size, 0, none⟩), .string (txt (digI (tl c)))] w1 fun e w' => e = .returned (.tuple #[.int .i64 (digI (tl c)).length, .nilIface]) ∧ Bld w' w.heap.size w.heap.size (writL tl (F.take pos) ++ digI (tl c)) ∧ Below w.heap.size w1 w' ∧ Oth w.heap.size w1 w') := fun w1 h1 h2 =>
        writes_calls w.heap.size w.heap.size _ _ w1 h1 (by have := Hwl.out; have := digI_length (tl c); omega) h2
      have Hf : Hid (∀ w1, Lai w1 → Calls Tryd.prog 45 #[.int .i64 (tl c), .int .i64 10] w1 fun e w' => e = .returned (.string (txt (digI (tl c)))) ∧ More w1 w') := fun w1 h => format_calls (tl c) (Htl.out c) w1 h
      obtain ⟨tv, Htv⟩ : ∃ x, Hid (tl c = x) := ⟨_, rfl⟩
      obtain ⟨dv, Hdv⟩ : ∃ x, Hid (digI tv = x) := ⟨_, rfl⟩
      rw [Hcn.out] at hnx CC
      rw [Hcb.out] at CC Hnext
      rw [Htv.out] at Ht Hw2 Hf Hnext
      rw [Hdv.out] at Hw2 Hf Hnext
      have Hend : Hid (∀ w1, Bld w1 w.heap.size w.heap.size (writL tl (F.take (pos + 1))) → w1.heap[w.heap.size + 1]? = some (.stringIter ss (pos + 1)) → More w w1 → (∃ p, p ≤ F.length ∧ Bld w1 w.heap.size w.heap.size (writL tl (F.take p)) ∧ w1.heap[w.heap.size + 1]? = some (.stringIter ss p) ∧ More w w1) ∧ ss.size - w1.iterPos (w.heap.size + 1) < ss.size - wr.iterPos (w.heap.size + 1)) := fun w1 a b m => by
        refine ⟨⟨pos + 1, hp, a, b, m⟩, ?_⟩
        have : w1.iterPos (w.heap.size + 1) = pos + 1 := by simp [World.iterPos, b]
        rw [this, Hip.out, Hsz.out]
        omega
      clear Hcn Htv Hdv hc hp hpl
      go_wp2_with (fail)
      refine CC.out.mono ?_
      rintro e w' ⟨rfl, rfl⟩
      clear CC hnx
      cases cb with
      | false =>
        rw [if_neg (by decide)] at Hnext
        clear Ht Hw2 Hf
        go_wp2_with (fail)
        refine (Hw1.out _ HI.out (More.size Hm.out)).mono ?_
        rintro e w1 ⟨rfl, h1, b1, k1⟩
        have HE := hid_tb (Hend.out w1 (by rw [Hnext.out]; exact h1) (k1.iter Hit.out (by omega)) (Below.trans Hm.out b1))
        clear h1 b1 k1 Hend Hw1
        go_wp2
        go_roundw
        case rel => exact HE.out.1
        case measure => exact HE.out.2
      | true =>
        rw [if_pos rfl] at Hnext
        clear Hw1
        go_wp2_with (go_at_fn fn; refine (Ht.out _ Hm.out).mono ?_; rintro e w1 ⟨rfl, rfl⟩; refine Hid.out ?_)
        refine Lib.hid ?_
        go_wp2_with (fail)
        refine (Hf.out _ (HL.out.more Hm.out)).mono ?_
        rintro e w1 ⟨rfl, m1⟩
        have HI1 : Hid (Bld w1 w.heap.size w.heap.size (writL tl (F.take pos))) := bld_more HI.out m1
        have Hit1 : Hid (w1.heap[w.heap.size + 1]? = some (.stringIter ss (pos + 1))) := heap_more m1 Hit.out
        have Hm1 : Hid (More w w1) := Hm.out.trans m1
        clear m1 Hf Ht
        go_wp2_with (fail)
        refine (Hw2.out _ HI1.out (More.size Hm1.out)).mono ?_
        rintro e w2 ⟨rfl, h1, b1, k1⟩
        have HE := hid_tb (Hend.out w2 (by rw [Hnext.out]; exact h1) (k1.iter Hit1.out (by omega)) (Below.trans Hm1.out b1))
        clear h1 b1 k1 Hend Hw2
        go_wp2
        go_roundw
        case rel => exact HE.out.1
        case measure => exact HE.out.2
    · have hnx : ∀ ty, (Instr.next (.pointer (some ⟨w.heap.size + 1, 0, none⟩)) true ty).run Tryd.prog wr = .ok (.tuple #[.bool false]) wr := fun ty => Lib.run_next_end_at wr (w.heap.size + 1) ss pos ty hit (by rw [Hsz.out]; exact hp)
      have Hs : Hid (Calls Tryd.prog 17 #[.pointer (some ⟨w.heap.size, 0, none⟩)] wr fun e w' => e = .returned (.string (txt (writL tl F))) ∧ Below w.heap.size wr w') := by
        have e : F.take pos = F := List.take_of_length_le (by omega)
        rw [e] at hI
        exact (string_calls w.heap.size w.heap.size _ wr hI (by omega)).mono (fun e w' h => ⟨h.1, h.2.2.1⟩)
      have Hm : Hid (More w wr) := hbw
      clear hI hit hbw hsz hp hpl
      obtain ⟨os, Hos⟩ : ∃ x, Hid (txt (writL tl F) = x) := ⟨_, rfl⟩
      rw [Hos.out] at Hs HP
      go_wp2_with (fail)
      refine Hs.out.mono ?_
      rintro e w1 ⟨rfl, b1⟩
      have HE : Hid (P (.returned (.string os)) w1) := HP.out w1 (Below.trans Hm.out b1)
      clear b1 HP
      go_wp2
      exact HE.out
end
section
open Go
section
variable {P : Program} {ops : Array Oper} {Q : Exit → Act → World → Prop} {md : Region.Mode} {S : World → Prop}

/-- The named order: an operation's number, and whether it is taken first (true) or is the only one that may come up (false). -/
def ordB (md : Region.Mode) (ops : Array Oper) : List (Nat × Bool) → Array Bool → Bool
  | [], listed => (Region.ready md ops listed).isEmpty
  | (i, t) :: rest, listed =>
    (ops[i]?).isSome && (if t then Region.free md ops listed i && (Region.ready md ops listed).contains i else Region.ready md ops listed == [i]) &&
      ordB md ops rest (listed.setIfInBounds i true)

/-- An operation that reads alone: one value in every world that meets S. -/
def OrdTake (P : Program) (ops : Array Oper) (S : World → Prop) (o : Oper) (a : Act) (w : World) (K : Act → World → Prop) : Prop :=
  if Region.wanted o (yielded ops a.tmps) = true then ∃ v, (∀ i : { w' // S w' }, (execOp a.eval o).run P i.val = .ok (.value v) i.val) ∧ K (a.put o.dst v) w
  else K (a.put o.dst undef) w

/-- One that calls or makes memory: behind it S holds anew. -/
def OrdBusy (P : Program) (ops : Array Oper) (Q : Exit → Act → World → Prop) (o : Oper) (a : Act) (w : World) (K : Act → World → Prop) : Prop :=
  if Region.wanted o (yielded ops a.tmps) = true then Oper.wp P o a w K Q else K (a.put o.dst undef) w

def wpOrd (P : Program) (ops : Array Oper) (Q : Exit → Act → World → Prop) (S : World → Prop) : List (Nat × Bool) → Act → World → Prop
  | [], a, w => Q .normal a w
  | (i, t) :: rest, a, w =>
    match ops[i]? with
    | none => False
    | some o => if t then OrdTake P ops S o a w (fun a' w' => wpOrd P ops Q S rest a' w') else OrdBusy P ops Q o a w (fun a' w' => S w' ∧ wpOrd P ops Q S rest a' w')

theorem wpOrd_held (hs : Region.noSelect ops = true) (hQ : ∀ c (a : Act) d v w, Q (.panic c) (a.put d v) w → Q (.panic c) a w) :
    ∀ (l : List (Nat × Bool)) (listed : Array Bool) (a : Act) (w : World), ordB md ops l listed = true → S w → wpOrd P ops Q S l a w → wpAnyH P md ops Q S l.length listed a w
  | [], listed, a, w, hB, _, h => ⟨by simpa [ordB] using hB, h⟩
  | (i, t) :: rest, listed, a, w, hB, hS, h => by
    simp only [ordB, Bool.and_eq_true] at hB
    obtain ⟨⟨ho, hc⟩, hB'⟩ := hB
    obtain ⟨o, ho⟩ := Option.isSome_iff_exists.1 ho
    simp only [wpOrd, ho] at h
    cases t with
    | true =>
      simp only [if_true, Bool.and_eq_true] at hc h
      unfold OrdTake at h
      by_cases hw : Region.wanted o (yielded ops a.tmps) = true
      · rw [if_pos hw] at h
        obtain ⟨v, hv, hk⟩ := h
        exact wpAnyH_take ho hs hc.1 hc.2 (fun c a w => hQ c a _ _ w) (.inl ⟨hw, fun w' hw' => hv ⟨w', hw'⟩⟩) hS (wpOrd_held hs hQ rest _ _ _ hB' hS hk)
      · rw [if_neg hw] at h
        exact wpAnyH_take ho hs hc.1 hc.2 (fun c a w => hQ c a _ _ w) (.inr ⟨by simpa using hw, rfl⟩) hS (wpOrd_held hs hQ rest _ _ _ hB' hS h)
    | false =>
      simp only [Bool.false_eq_true, if_false, beq_iff_eq] at hc h
      refine wpAnyH_all hc (by simp) (fun j hj => ?_)
      obtain rfl : j = i := by simpa using hj
      unfold OrdBusy at h
      unfold wpOp
      rw [ho]
      show if Region.wanted o (yielded ops a.tmps) = true then _ else _
      by_cases hw : Region.wanted o (yielded ops a.tmps) = true
      · rw [if_pos hw] at h ⊢
        exact .inl (Oper.wp_mono (fun a' w' h' => ⟨h'.1, wpOrd_held hs hQ rest _ _ _ hB' h'.1 h'.2⟩) h)
      · rw [if_neg hw] at h ⊢
        exact ⟨hS, wpOrd_held hs hQ rest _ _ _ hB' h.1 h.2⟩

/-- The walk as a structure, so that nothing looks into it unasked. -/
structure Ord (P : Program) (ops : Array Oper) (Q : Exit → Act → World → Prop) (S : World → Prop) (l : List (Nat × Bool)) (a : Act) (w : World) : Prop where
  out : wpOrd P ops Q S l a w

/-- A region that asks the tape, by a named order. -/
theorem wp_region_ord {id : Nat} {a : Act} {w : World} (l : List (Nat × Bool)) (hm : P.follows .mixedOrders = true) (hs : Region.noSelect ops = true)
    (hB : (ordB .any ops l (Array.replicate ops.size false) && l.length == ops.size) = true) (hS : S w.drew) (h : Ord P ops (NoPanic Q) S l a w.drew) : (Code.region id ops true).wp P Q a w := by
  rw [Bool.and_eq_true] at hB
  have hl : l.length = ops.size := by simpa using hB.2
  refine wp_region_noPanic (wp_region_held_drew (S := S) hm hS (fun _ => ?_))
  rw [← hl]
  have := wpOrd_held (P := P) (md := .any) (S := S) (Q := NoPanic Q) hs (fun _ _ _ _ _ h => h) l (Array.replicate ops.size false) a w.drew hB.1 hS h.out
  rwa [← hl] at this

def nth {α : Type} : List α → Nat → Option α
  | [], _ => none
  | x :: _, 0 => some x
  | _ :: l, n + 1 => nth l n
theorem nth_at {α : Type} : ∀ (l : List α) (n : Nat), nth l n = l[n]?
  | [], _ => rfl
  | _ :: _, 0 => rfl
  | _ :: l, n + 1 => by rw [nth, nth_at l n]; rfl
theorem nth_arr {α : Type} {l : List α} {n : Nat} {x : α} (h : nth l n = some x) : l.toArray[n]? = some x := by rw [List.getElem?_toArray, ← nth_at]; exact h

theorem wpOrd_take {ls : List Oper} {i : Nat} {o : Oper} {rest : List (Nat × Bool)} {a : Act} {w : World} (ho' : nth ls i = some o) (hw : Region.wanted o (yielded ls.toArray a.tmps) = true)
    (h : ∀ K : Act → World → Prop, (∀ a w, Ord P ls.toArray Q S rest a w → K a w) → ∃ v, (∀ i : { w' // S w' }, (execOp a.eval o).run P i.val = .ok (.value v) i.val) ∧ K (a.put o.dst v) w) :
    Ord P ls.toArray Q S ((i, true) :: rest) a w := by
  have ho := nth_arr ho'
  refine ⟨?_⟩
  simp only [wpOrd, ho]
  unfold OrdTake
  simp only [if_true]
  rw [if_pos hw]
  exact h _ (fun _ _ h => h.out)
theorem wpOrd_busy {ls : List Oper} {i : Nat} {o : Oper} {rest : List (Nat × Bool)} {a : Act} {w : World} (ho' : nth ls i = some o) (hw : Region.wanted o (yielded ls.toArray a.tmps) = true)
    (h : ∀ K : Act → World → Prop, (∀ a w, S w → Ord P ls.toArray Q S rest a w → K a w) → Oper.wp P o a w K Q) : Ord P ls.toArray Q S ((i, false) :: rest) a w := by
  have ho := nth_arr ho'
  refine ⟨?_⟩
  simp only [wpOrd, ho, Bool.false_eq_true, if_false]
  unfold OrdBusy
  rw [if_pos hw]
  exact h _ (fun _ _ hs h => ⟨hs, h.out⟩)
/-- A move, an assignment. -/
theorem wpOrd_move {ls : List Oper} {i : Nat} {o : Oper} {x : Operand} {rest : List (Nat × Bool)} {a : Act} {w : World} (ho' : nth ls i = some o) (hop : o.op = .move x)
    (hw : Region.wanted o (yielded ls.toArray a.tmps) = true)
    (h : ∀ K : Act → World → Prop, (∀ a w, Ord P ls.toArray Q S rest a w → K a w) → K (a.put o.dst (a.eval x)) w) : Ord P ls.toArray Q S ((i, true) :: rest) a w := by
  refine wpOrd_take ho' hw (fun K hK => ⟨a.eval x, fun i => ?_, h K hK⟩)
  unfold execOp
  rw [hop]
  rfl
theorem wpOrd_assign {ls : List Oper} {i : Nat} {o : Oper} {x : Operand} {rest : List (Nat × Bool)} {a : Act} {w : World} (ho' : nth ls i = some o) (hop : o.op = .assign x)
    (hw : Region.wanted o (yielded ls.toArray a.tmps) = true)
    (h : ∀ K : Act → World → Prop, (∀ a w, Ord P ls.toArray Q S rest a w → K a w) → K (a.put o.dst (a.eval x)) w) : Ord P ls.toArray Q S ((i, true) :: rest) a w := by
  refine wpOrd_take ho' hw (fun K hK => ⟨a.eval x, fun i => ?_, h K hK⟩)
  unfold execOp
  rw [hop]
  rfl

/-- A pick whose test is false, or true. -/
theorem wpOrd_pickF {ls : List Oper} {i : Nat} {o : Oper} {c x y : Operand} {rest : List (Nat × Bool)} {a : Act} {w : World} (ho' : nth ls i = some o) (hop : o.op = .pick c x y)
    (hw : Region.wanted o (yielded ls.toArray a.tmps) = true) (hc : a.eval c = .bool false)
    (h : ∀ K : Act → World → Prop, (∀ a w, Ord P ls.toArray Q S rest a w → K a w) → K (a.put o.dst (a.eval y)) w) : Ord P ls.toArray Q S ((i, true) :: rest) a w := by
  have ho := nth_arr ho'
  refine ⟨?_⟩
  simp only [wpOrd, ho]
  unfold OrdTake
  simp only [if_true]
  rw [if_pos hw]
  refine ⟨a.eval y, fun i => ?_, h _ (fun _ _ h => h.out)⟩
  unfold execOp
  rw [hop]
  dsimp only
  rw [hc]
  rfl
theorem wpOrd_pickT {ls : List Oper} {i : Nat} {o : Oper} {c x y : Operand} {rest : List (Nat × Bool)} {a : Act} {w : World} (ho' : nth ls i = some o) (hop : o.op = .pick c x y)
    (hw : Region.wanted o (yielded ls.toArray a.tmps) = true) (hc : a.eval c = .bool true)
    (h : ∀ K : Act → World → Prop, (∀ a w, Ord P ls.toArray Q S rest a w → K a w) → K (a.put o.dst (a.eval x)) w) : Ord P ls.toArray Q S ((i, true) :: rest) a w := by
  have ho := nth_arr ho'
  refine ⟨?_⟩
  simp only [wpOrd, ho]
  unfold OrdTake
  simp only [if_true]
  rw [if_pos hw]
  refine ⟨a.eval x, fun i => ?_, h _ (fun _ _ h => h.out)⟩
  unfold execOp
  rw [hop]
  dsimp only
  rw [hc]
  rfl

/-- One that its guard passes over (its slot is as it was). -/
theorem wpOrd_skip {ls : List Oper} {i : Nat} {o : Oper} {t : Bool} {rest : List (Nat × Bool)} {a : Act} {w : World} (ho' : nth ls i = some o) (hS : S w)
    (hw : Region.wanted o (yielded ls.toArray a.tmps) = false) (hp : a.put o.dst undef = a) (h : Ord P ls.toArray Q S rest a w) : Ord P ls.toArray Q S ((i, t) :: rest) a w := by
  have ho := nth_arr ho'
  refine ⟨?_⟩
  simp only [wpOrd, ho]
  unfold OrdTake OrdBusy
  rw [hw, hp]
  cases t
  · simp only [Bool.false_eq_true, if_false]; exact ⟨hS, h.out⟩
  · simp only [Bool.false_eq_true, if_false, if_true]; exact h.out
/-- One that its guard passes over, whatever its slot held. -/
theorem wpOrd_pass {ls : List Oper} {i : Nat} {o : Oper} {t : Bool} {rest : List (Nat × Bool)} {a : Act} {w : World} (ho' : nth ls i = some o) (hS : S w)
    (hw : Region.wanted o (yielded ls.toArray a.tmps) = false)
    (h : ∀ K : Act → World → Prop, (∀ a w, Ord P ls.toArray Q S rest a w → K a w) → K (a.put o.dst undef) w) : Ord P ls.toArray Q S ((i, t) :: rest) a w := by
  have ho := nth_arr ho'
  refine ⟨?_⟩
  have hk := h (fun a w => wpOrd P ls.toArray Q S rest a w) (fun _ _ h => h.out)
  simp only [wpOrd, ho]
  unfold OrdTake OrdBusy
  rw [hw]
  cases t
  · simp only [Bool.false_eq_true, if_false]; exact ⟨hS, hk⟩
  · simp only [Bool.false_eq_true, if_false, if_true]; exact hk
theorem wpOrd_done {a : Act} {w : World} (h : Q .normal a w) : Ord P ops (NoPanic Q) S [] a w := ⟨h⟩

end
end
section
open Go.RowKit
set_option linter.unusedSimpArgs false
set_option linter.unusedVariables false
set_option maxRecDepth 8000
/-- The library's two errors are there, too. -/
structure LaiE (w : World) : Prop extends Lai w where
  syn : ∃ tp p t fz, w.heap[5]? = some (.cells #[.iface tp p] t fz)
  rng : ∃ tp p t fz, w.heap[6]? = some (.cells #[.iface tp p] t fz)
theorem var_of {P : Program} {w : World} {n : String} {g : Nat} {cs : Array Value} {t : TypeId} {fz : Nat × Nat} (hg : P.globalNamed n = some g) (h : w.heap[g]? = some (.cells cs t fz)) : w.var? P n = some cs := by
  unfold World.var?
  rw [hg]
  show (match w.heap[g]? with | some (.cells cs _ _) => some cs | _ => none) = some cs
  rw [h]
theorem LaiE.more {w w' : World} (h : LaiE w) (m : More w w') : LaiE w' := by
  obtain ⟨a, ⟨t, p, x, y, b⟩, ⟨t', p', x', y', c⟩⟩ := h
  exact ⟨a.more m, ⟨t, p, x, y, heap_more m b⟩, ⟨t', p', x', y', heap_more m c⟩⟩

theorem index_cut : ∀ l : List UInt8, (cutB l = [] ∧ Lib.indexByte l 32 = -1) ∨ (¬ cutB l = [] ∧ Lib.indexByte l 32 = (cutA l).length)
  | [] => .inl ⟨rfl, rfl⟩
  | b :: l => by
    by_cases e : b = 32
    · subst e
      right
      simp [cutB, cutA, Lib.indexByte]
    · have c1 : cutB (b :: l) = cutB l := by simp [cutB, e]
      have c2 : cutA (b :: l) = b :: cutA l := by simp [cutA, e]
      rw [c1, c2, Lib.indexByte]
      rcases index_cut l with ⟨h1, h2⟩ | ⟨h1, h2⟩
      · left
        refine ⟨h1, ?_⟩
        simp [e, h2]
      · right
        refine ⟨h1, ?_⟩
        rw [h2]
        have : ¬ ((cutA l).length : Int) = -1 := by omega
        simp [e, this]
theorem txt_extract (x y : List UInt8) : (txt (x ++ y)).extract 0 x.length = txt x ∧ (txt (x ++ y)).extract x.length (x ++ y).length = txt y := by
  have key : ∀ s t : ByteArray, s.data.toList = t.data.toList → s = t := fun s t h => by
    obtain ⟨⟨s⟩⟩ := s
    obtain ⟨⟨t⟩⟩ := t
    have h : s = t := h
    rw [h]
  constructor
  · apply key
    rw [Lib.extract_data]
    simp
  · apply key
    rw [Lib.extract_data]
    simp

set_option maxHeartbeats 1000000 in
theorem cutWord_calls (l : List UInt8) (hl : l.length < 4611686018427387904) (w : World) : Calls Tryd.prog 37 #[.string (txt l)] w fun e w' => e = .returned (.tuple #[.string (txt (cutA l)), .string (txt (cutB l))]) ∧ More w w' := by
  suffices hP : ∀ P : Ending → World → Prop, (∀ w', More w w' → P (.returned (.tuple #[.string (txt (cutA l)), .string (txt (cutB l))])) w') → Calls Tryd.prog 37 #[.string (txt l)] w P from hP _ (fun w' m => ⟨rfl, m⟩)
  intro P hP0
  have CI : Hid (Calls Tryd.prog 50 #[.string (txt l), .int .u8 32] w fun e w' => e = .returned (.int .i64 (Lib.indexByte l 32)) ∧ w' = w) := Any.strings_IndexByte Tryd.lays137 (txt l) 32 w
  have hx := index_cut l
  have e1 := txt_extract (cutA l) (cutB l)
  have hs := txt_size l
  rw [cut_app] at e1
  have hla : (cutA l).length + (cutB l).length = l.length := by rw [← List.length_append, cut_app]
  obtain ⟨ss, Hss⟩ : ∃ x, Hid (txt l = x) := ⟨_, rfl⟩
  obtain ⟨ta, Hta⟩ : ∃ x, Hid (txt (cutA l) = x) := ⟨_, rfl⟩
  obtain ⟨tb, Htb⟩ : ∃ x, Hid (txt (cutB l) = x) := ⟨_, rfl⟩
  rw [Hss.out] at CI e1 hs ⊢
  rw [Hta.out, Htb.out] at e1 hP0
  have HP : Hid (∀ w', More w w' → P (.returned (.tuple #[.string ta, .string tb])) w') := hP0
  obtain ⟨n, Hn⟩ : ∃ x, Hid (l.length = x) := ⟨_, rfl⟩
  obtain ⟨k, Hk⟩ : ∃ x, Hid ((cutA l).length = x) := ⟨_, rfl⟩
  obtain ⟨i, Hi⟩ : ∃ x, Hid (Lib.indexByte l 32 = x) := ⟨_, rfl⟩
  rw [Hi.out] at CI hx
  rw [Hk.out] at hx e1 hla
  rw [Hn.out] at e1 hs hl hla
  obtain ⟨x1, x2⟩ := e1
  have hk : k ≤ n := by omega
  have hki : (k : Int) ≤ n := by omega
  have h0k : (0 : Int) ≤ k := by omega
  clear hP0 Hss Hta Htb Hn Hk Hi
  have hcase : (i = -1 ∧ k = n) ∨ i = k := by
    rcases hx with ⟨a, b⟩ | ⟨a, b⟩
    · rw [a, List.length_nil] at hla
      exact .inl ⟨b, by omega⟩
    · exact .inr b
  clear hx hla
  rcases hcase with ⟨rfl, rfl⟩ | rfl
  · have htb : tb = ByteArray.empty := by rw [← x2]; simp
    subst htb
    go_enter Tryd.func37, Tryd.ntmps37
    go_wp2_with (fail)
    refine CI.out.mono ?_
    rintro e w' ⟨rfl, rfl⟩
    clear CI
    go_wp2
    go_region
    all_goals (go_wp2; exact HP.out _ (More.refl _).drew)
  · have hn0 : ¬ (k : Int) < 0 := by omega
    go_enter Tryd.func37, Tryd.ntmps37
    go_wp2_with (fail)
    refine CI.out.mono ?_
    rintro e w' ⟨rfl, rfl⟩
    clear CI
    go_wp2
    go_region
    all_goals (go_wp2; exact HP.out _ (More.refl _).drew)

theorem short_calls (v : Int) (w : World) : Calls Tryd.prog 63 #[.int .i64 v] w fun e w' => e = .returned (.bool (decide (-1000000000000000000 < v ∧ v < 1000000000000000000))) ∧ w' = w := by
  suffices hP : ∀ P : Ending → World → Prop, P (.returned (.bool (decide (-1000000000000000000 < v ∧ v < 1000000000000000000)))) w → Calls Tryd.prog 63 #[.int .i64 v] w P from hP _ ⟨rfl, rfl⟩
  intro P hP
  by_cases h1 : -1000000000000000000 < v
  · by_cases h2 : v < 1000000000000000000
    · have HP : Hid (P (.returned (.bool true)) w) := by rw [decide_eq_true (show _ ∧ _ from ⟨h1, h2⟩)] at hP; exact hP
      clear hP
      go_enter Tryd.func63, Tryd.ntmps63
      go_wp2
      exact HP.out
    · have HP : Hid (P (.returned (.bool false)) w) := by rw [decide_eq_false (fun h => h2 h.2)] at hP; exact hP
      clear hP
      go_enter Tryd.func63, Tryd.ntmps63
      go_wp2
      exact HP.out
  · have HP : Hid (P (.returned (.bool false)) w) := by rw [decide_eq_false (fun h => h1 h.1)] at hP; exact hP
    clear hP
    go_enter Tryd.func63, Tryd.ntmps63
    go_wp2
    exact HP.out

/-- How ParseInt ends. -/
theorem parseInt_calls (l : List UInt8) (hl : l.length ≤ 20) (w : World) (h : LaiE w) :
    Calls Tryd.prog 80 #[.string (txt l), .int .i64 10, .int .i64 64] w fun e w' => More w w' ∧ ((∃ v, Lib.parseIntB 64 l = .ok v ∧ e = .returned (.tuple #[.int .i64 v, .nilIface])) ∨ ((∀ v, ¬ Lib.parseIntB 64 l = .ok v) ∧ ∃ v T p, e = .returned (.tuple #[.int .i64 v, .iface T p]))) := by
  have hs : (txt l).size ≤ 20 := by rw [txt_size]; exact hl
  obtain ⟨t1, p1, _, _, c1⟩ := h.syn
  obtain ⟨t2, p2, _, _, c2⟩ := h.rng
  rcases hq : Lib.parseIntB 64 l with v | _ | _
  · refine (Any.strconv_ParseInt_10_at64_ok Tryd.laysC174 (txt l) (by omega) v hq w).mono ?_
    rintro e w' ⟨rfl, hw⟩
    refine ⟨?_, .inl ⟨v, rfl, rfl⟩⟩
    rcases hw with rfl | ⟨t, rfl⟩
    · exact More.refl _
    · exact Lib.bytesWorld_below w _ t
  · refine (Any.strconv_ParseInt_10_at64_syntax_var Tryd.laysC174 (txt l) (by omega) hq _ _ w (var_of (by kernel_rfl) c1)).mono ?_
    rintro e w' ⟨N, rfl, _, _, m⟩
    exact ⟨m, .inr ⟨fun v => by simp, _, _, _, rfl⟩⟩
  · refine (Any.strconv_ParseInt_10_at64_range_var Tryd.laysC174 (txt l) (by omega) hq _ _ w (var_of (by kernel_rfl) c2)).mono ?_
    rintro e w' ⟨N, rfl, _, _, m⟩
    exact ⟨m, .inr ⟨fun v => by simp, _, _, _, rfl⟩⟩
theorem parseInt_b64 {l : List UInt8} {v : Int} (h : Lib.parseIntB 64 l = .ok v) : B64 v := by
  have := Lib.parseIntB_bounds h
  have e : (2 : Nat) ^ (64 - 1) = 9223372036854775808 := by decide
  rw [e] at this
  unfold B64
  omega
theorem num_parse {l : List UInt8} {v : Int} (h : NumIs 19 l v) : l = digI v ∧ Lib.parseIntB 64 l = .ok v := by
  have e := numIs_dig h (by omega)
  refine ⟨e, ?_⟩
  rw [e]
  exact parse_dig (numIs_b64 h)

set_option maxHeartbeats 1000000 in
theorem tnumber_calls (l : List UInt8) (hl : l.length < 4611686018427387904) (w : World) (h : LaiE w) :
    Calls Tryd.prog 62 #[.string (txt l)] w fun e w' => ∃ v ok, e = .returned (.tuple #[.int .i64 v, .bool ok]) ∧ NumAns 19 l v ok ∧ More w w' := by
  suffices hP : ∀ P : Ending → World → Prop, (∀ v ok w', NumAns 19 l v ok → More w w' → P (.returned (.tuple #[.int .i64 v, .bool ok])) w') → Calls Tryd.prog 62 #[.string (txt l)] w P from hP _ (fun v ok w' a m => ⟨v, ok, rfl, a, m⟩)
  intro P hP0
  have HP : Hid (∀ v ok w', NumAns 19 l v ok → More w w' → P (.returned (.tuple #[.int .i64 v, .bool ok])) w') := hP0
  have hs := txt_size l
  have hll : (txt l).toList = l := ByteArray.toList_mk _
  have HL : Hid (LaiE w) := h
  clear hP0 h
  by_cases h20 : l.length ≤ 20
  · have CP := hid_tb (parseInt_calls l h20 w HL.out)
    obtain ⟨ss, Hss⟩ : ∃ x, Hid (txt l = x) := ⟨_, rfl⟩
    rw [Hss.out] at CP hs hll ⊢
    have h20i : ¬ (20 : Int) < (ss.size : Int) := by rw [hs]; omega
    have h20n : ¬ 20 < l.length := by omega
    clear h20
    go_enter Tryd.func62, Tryd.ntmps62
    go_wp2_with (fail)
    refine CP.out.mono ?_
    rintro e w1 ⟨m1, ⟨v, hv, rfl⟩ | ⟨hno, v, T, p, rfl⟩⟩
    · have CF := hid_tb (format_calls v (parseInt_b64 hv) w1 (HL.out.toLai.more m1))
      have Hm1 : Hid (More w w1) := m1
      have Hv : Hid (Lib.parseIntB 64 l = .ok v) := hv
      clear m1 hv CP
      have hdl : (txt (digI v)).toList = digI v := ByteArray.toList_mk _
      obtain ⟨ds, Hds⟩ : ∃ x, Hid (txt (digI v) = x) := ⟨_, rfl⟩
      rw [Hds.out] at CF hdl
      go_wp2_with (fail)
      refine CF.out.mono ?_
      rintro e w2 ⟨rfl, m2⟩
      by_cases he : digI v = l
      · have q1 : (ds.toList == ss.toList) = true := by rw [hdl, hll, he]; simp
        have q2 : ds.toList = ss.toList := by rw [hdl, hll, he]
        have HE := hid_tb (HP.out v true w2 (.inl ⟨rfl, by rw [← he]; exact b64_numIs (parseInt_b64 Hv.out)⟩) (Hm1.out.trans m2))
        clear m2 CF HP hdl hll he
        go_wp2
        exact HE.out
      · have q1 : (ds.toList == ss.toList) = false := by rw [hdl, hll]; simpa using he
        have q2 : ¬ ds.toList = ss.toList := by rw [hdl, hll]; exact he
        have HE := hid_tb (HP.out v false w2 (.inr ⟨rfl, fun v' n => by
          obtain ⟨a, b⟩ := num_parse n
          rw [Hv.out] at b
          have b : v = v' := by injection b
          exact he (by rw [b]; exact a.symm)⟩) (Hm1.out.trans m2))
        clear m2 CF HP hdl hll he
        go_wp2
        exact HE.out
    · have HE := hid_tb (HP.out v false w1 (.inr ⟨rfl, fun v' n => hno v' (num_parse n).2⟩) m1)
      clear m1 hno CP HP
      go_wp2
      exact HE.out
  · have HE := hid_tb (HP.out 0 false w (.inr ⟨rfl, fun v' n => by have := numIs_length n; omega⟩) (More.refl _))
    obtain ⟨ss, Hss⟩ : ∃ x, Hid (txt l = x) := ⟨_, rfl⟩
    rw [Hss.out] at hs hll ⊢
    have h20i : (20 : Int) < (ss.size : Int) := by rw [hs]; omega
    have h20n : 20 < l.length := by omega
    clear h20 HP
    go_enter Tryd.func62, Tryd.ntmps62
    go_wp2
    exact HE.out
section
variable {P : Program} {w : World}
theorem head_reads {n : String} {d : DataW Unit} {r : List (String × DataW Unit)} (h : laidMet P ((n, d) :: r) w) : ∃ g t cs fuel p, P.globalNamed n = some g ∧ (P.globals[g]?).map (·.type) = some t ∧ w.var? P n = some cs ∧ DataW.trod (fun _ => ()) P w 0 (fun _ => true) false fuel t cs.toList = some (d, p) := by
  obtain ⟨ps, ⟨g, t, cs, fuel, p, q, h1, h2, h3, h4, _, _⟩, _⟩ := h
  exact ⟨g, t, cs, fuel, p, h1, h2, h3, h4⟩
theorem var_heap {n : String} {g : Nat} {cs : Array Value} (hg : P.globalNamed n = some g) (h : w.var? P n = some cs) : ∃ t fz, w.heap[g]? = some (.cells cs t fz) := by
  unfold World.var? at h
  rw [hg] at h
  have h : (match w.heap[g]? with | some (.cells cs _ _) => some cs | _ => none) = some cs := h
  split at h
  · rename_i c t fz e
    obtain rfl := Option.some.inj h
    exact ⟨t, fz, e⟩
  · cases h
end
theorem take_at {cs : List Value} {k : Nat} {v : Value} (h : (cs.drop k).take 1 = [v]) : cs[k]? = some v := by
  have := congrArg (·[0]?) h
  simpa [List.getElem?_take, List.getElem?_drop] using this
/-- A kind as it is listed. -/
def kdData {H : Type} (x : Kd) : DataW H := .agg [.lit (.string x.1), .lit (.int .i64 x.2.1), .lit (.int .i64 x.2.2.1), .lit (.string x.2.2.2)]
theorem c_str : Tryd.prog.cellsOf 9 = 1 := by kernel_rfl
theorem c_int : Tryd.prog.cellsOf 3 = 1 := by kernel_rfl
theorem c_kind : Tryd.prog.cellsOf 70 = 4 := by kernel_rfl
theorem c_kinds : Tryd.prog.cellsOf 87 = 100 := by kernel_rfl
theorem str_txt {s : ByteArray} {l : List UInt8} (h : s.data.toList = l) : s = txt l := by
  obtain ⟨⟨s⟩⟩ := s
  have h : s = l := h
  rw [h]
theorem kind_cells {w : World} {fuel : Nat} {cs : List Value} {x : Kd} {p : List MemPlace} (h : DataW.trod (fun _ => ()) Tryd.prog w 0 (fun _ => true) false fuel 70 cs = some (kdData x, p)) : cs = kindCells x := by
  obtain ⟨xs, n, rfl, hx, hl, hxl, hall⟩ := DataW.trod_struct Tryd.underlying70 h
  rw [c_kind] at hl
  have hx3 : xs.map (·.1) = [.lit (.string x.1), .lit (.int .i64 x.2.1), .lit (.int .i64 x.2.2.1), .lit (.string x.2.2.2)] := by
    have := congrArg Prod.fst hx
    simpa [kdData] using this.symm
  obtain ⟨x0, x1, x2, x3, rfl⟩ : ∃ x0 x1 x2 x3, xs = [x0, x1, x2, x3] := by
    match xs, hx3 with
    | [x0, x1, x2, x3], _ => exact ⟨x0, x1, x2, x3, rfl⟩
  simp only [List.map_cons, List.map_nil, List.cons.injEq, and_true] at hx3
  obtain ⟨e0, e1, e2, e3⟩ := hx3
  have f0 := hall 0 _ rfl
  have f1 := hall 1 _ rfl
  have f2 := hall 2 _ rfl
  have f3 := hall 3 _ rfl
  change DataW.trod _ _ _ _ _ _ _ 9 ((cs.drop 0).take (Tryd.prog.cellsOf 9)) = some x0 at f0
  change DataW.trod _ _ _ _ _ _ _ 3 ((cs.drop 1).take (Tryd.prog.cellsOf 3)) = some x1 at f1
  change DataW.trod _ _ _ _ _ _ _ 3 ((cs.drop 2).take (Tryd.prog.cellsOf 3)) = some x2 at f2
  change DataW.trod _ _ _ _ _ _ _ 9 ((cs.drop 3).take (Tryd.prog.cellsOf 9)) = some x3 at f3
  rw [c_str] at f0 f3
  rw [c_int] at f1 f2
  have g0 : cs[0]? = some (.string (txt x.1)) := by
    obtain ⟨z, hz, hx', _⟩ := DataW.trod_string Tryd.underlying9 f0
    rw [hx'] at e0
    have e0 : z.data.toList = x.1 := by injection e0 with e0; injection e0
    rw [← str_txt e0]
    exact take_at hz
  have g1 : cs[1]? = some (.int .i64 x.2.1) := by
    obtain ⟨z, hz, hx', _⟩ := DataW.trod_int Tryd.underlying3 f1
    rw [hx'] at e1
    cases e1
    exact take_at hz
  have g2 : cs[2]? = some (.int .i64 x.2.2.1) := by
    obtain ⟨z, hz, hx', _⟩ := DataW.trod_int Tryd.underlying3 f2
    rw [hx'] at e2
    cases e2
    exact take_at hz
  have g3 : cs[3]? = some (.string (txt x.2.2.2)) := by
    obtain ⟨z, hz, hx', _⟩ := DataW.trod_string Tryd.underlying9 f3
    rw [hx'] at e3
    have e3 : z.data.toList = x.2.2.2 := by injection e3 with e3; injection e3
    rw [← str_txt e3]
    exact take_at hz
  match cs, hl, g0, g1, g2, g3 with
  | [c0, c1, c2, c3], _, g0, g1, g2, g3 =>
    simp at g0 g1 g2 g3
    subst g0 g1 g2 g3
    rfl
theorem kinds_cells {w : World} {fuel : Nat} {cs : List Value} {p : List MemPlace} (h : DataW.trod (fun _ => ()) Tryd.prog w 0 (fun _ => true) false fuel 87 cs = some (.agg (kindsT.map kdData), p)) : cs = kindsC := by
  cases fuel with
  | zero => simp [DataW.trod] at h
  | succ fuel =>
    simp only [DataW.trod, Tryd.underlying87, c_kinds, c_kind] at h
    split at h
    · rename_i hl
      obtain ⟨xs, hm, hx⟩ := Option.map_eq_some_iff.1 h
      have hxs : xs.map (·.1) = kindsT.map kdData := by
        have := congrArg Prod.fst hx
        simpa using this
      have part : ∀ i x, kindsT[i]? = some x → (cs.drop (i * 4)).take 4 = kindCells x := fun i x hi => by
        have h25 : i < 25 := by
          have := (List.getElem?_eq_some_iff.1 hi).1
          simpa [kindsT_length] using this
        obtain ⟨b, hb, hf⟩ := Lib.mapM_at hm i i (by simp [h25])
        have h1 : (xs.map (·.1))[i]? = some b.1 := by simp [hb]
        rw [hxs, List.getElem?_map, hi] at h1
        obtain ⟨b1, b2⟩ := b
        obtain rfl := Option.some.inj h1
        exact kind_cells hf
      apply List.ext_getElem?
      intro j
      by_cases hj : j < 100
      · have hi : j / 4 < 25 := by omega
        obtain ⟨x, hx⟩ : ∃ x, kindsT[j / 4]? = some x := ⟨kindsT[j / 4]'(by rw [kindsT_length]; exact hi), List.getElem?_eq_getElem _⟩
        obtain ⟨k0, k1, k2, k3⟩ := kindsC_at _ x hx
        have hp := part _ x hx
        have get : ∀ r, r < 4 → cs[j / 4 * 4 + r]? = (kindCells x)[r]? := fun r hr => by
          rw [← hp, List.getElem?_take, if_pos hr, List.getElem?_drop]
        have hr : j % 4 < 4 := Nat.mod_lt _ (by decide)
        have hj4 : j = j / 4 * 4 + j % 4 := by omega
        rcases (show j % 4 = 0 ∨ j % 4 = 1 ∨ j % 4 = 2 ∨ j % 4 = 3 by omega) with q | q | q | q
        · rw [q] at hj4; rw [hj4, get 0 (by omega)]; exact k0.symm
        · rw [q] at hj4; rw [hj4, get 1 (by omega)]; exact k1.symm
        · rw [q] at hj4; rw [hj4, get 2 (by omega)]; exact k2.symm
        · rw [q] at hj4; rw [hj4, get 3 (by omega)]; exact k3.symm
      · rw [List.getElem?_eq_none (by omega), List.getElem?_eq_none (by rw [kindsC_length]; omega)]
    · cases h
theorem lai_kinds {w : World} {r : List (String × DataW Unit)} {n : String} (hn : Tryd.prog.globalNamed n = some 0) (h : laidMet Tryd.prog ((n, .agg (kindsT.map kdData)) :: r) w) : ∃ t fz, w.heap[0]? = some (.cells kindsC.toArray t fz) := by
  obtain ⟨g, t, cs, fuel, p, h1, h2, h3, h4⟩ := head_reads h
  obtain rfl := Option.some.inj (h1.symm.trans hn)
  obtain rfl := Option.some.inj (h2.symm.trans (show (Tryd.prog.globals[0]?).map (·.type) = some 87 by kernel_rfl))
  have e := kinds_cells h4
  rw [← e]
  exact var_heap hn h3
theorem lai_pow {w : World} {r : List (String × DataW Unit)} {n : String} (hn : Tryd.prog.globalNamed n = some 2) (h : laidMet Tryd.prog ((n, Lib.tabData .u64 Lib.pow10Tab) :: r) w) : ∃ t fz, w.heap[2]? = some (.cells (Lib.pow10Tab.map fun z => Value.int .u64 z).toArray t fz) := by
  have := Lib.tabIs_of_head hn (show (Tryd.prog.globals[2]?).map (·.type) = some 125 by kernel_rfl) Tryd.underlying125 Tryd.underlying112 (by kernel_rfl) (by kernel_rfl) h
  exact var_heap hn this
theorem iface_cell {w : World} {fuel : Nat} {cs : List Value} {nm : String} {d : DataW Unit} {p : List MemPlace} (h : DataW.trod (fun _ => ()) Tryd.prog w 0 (fun _ => true) false fuel 44 cs = some (.iface nm d, p)) : ∃ u v, cs = [.iface u v] := by
  cases fuel with
  | zero => simp [DataW.trod] at h
  | succ n =>
    unfold DataW.trod at h
    rw [Tryd.underlying44] at h
    split at h <;> simp_all
theorem lai_err {w : World} {r : List (String × DataW Unit)} {n nm : String} {d : DataW Unit} {g : Nat} (hn : Tryd.prog.globalNamed n = some g) (ht : (Tryd.prog.globals[g]?).map (·.type) = some 44) (h : laidMet Tryd.prog ((n, .iface nm d) :: r) w) : ∃ tp p t fz, w.heap[g]? = some (.cells #[.iface tp p] t fz) := by
  obtain ⟨g', t, cs, fuel, p, h1, h2, h3, h4⟩ := head_reads h
  obtain rfl := Option.some.inj (h1.symm.trans hn)
  obtain rfl := Option.some.inj (h2.symm.trans ht)
  obtain ⟨u, v, e⟩ := iface_cell h4
  obtain ⟨t', fz, hh⟩ := var_heap hn h3
  refine ⟨u, v, t', fz, ?_⟩
  have : cs = #[.iface u v] := by rw [← Array.toArray_toList (xs := cs), e]
  rw [← this]
  exact hh

/-- What the rows list holds. -/
theorem lai_prints {w : World} (h : laidMetH Tryd.prog Rows.textPrintsRow.laid w) : Lai w := by
  have h : laidMet Tryd.prog Rows.textPrintsRow.laid w := h
  exact ⟨lai_kinds (by kernel_rfl) h.tail.tail.tail, lai_pow (by kernel_rfl) h.tail.tail⟩
theorem lai_parses {w : World} (h : laidMetH Tryd.prog Rows.textParsesRow.laid w) : LaiE w := by
  have h : laidMet Tryd.prog Rows.textParsesRow.laid w := h
  exact ⟨⟨lai_kinds (by kernel_rfl) h.tail.tail.tail.tail.tail, lai_pow (by kernel_rfl) h.tail.tail⟩, lai_err (by kernel_rfl) (by kernel_rfl) h.tail.tail.tail.tail, lai_err (by kernel_rfl) (by kernel_rfl) h.tail.tail.tail⟩
def kindV (x : Kd) : Array Value := #[.string (txt x.1), .int .i64 x.2.1, .int .i64 x.2.2.1, .string (txt x.2.2.2)]
theorem kind_index {k : Nat} {x : Kd} (h : kindsT[k]? = some x) (w : World) : (Instr.index 87 (.agg kindsC.toArray) (.int .i64 k)).run Tryd.prog w = .ok (.agg (kindV x)) w := by
  have hk : k < 25 := by
    have := (List.getElem?_eq_some_iff.1 h).1
    simpa [kindsT_length] using this
  have key : ∀ (j : Nat), j < 25 → ∀ y, kindsT[j]? = some y → (Instr.index 87 (.agg kindsC.toArray) (.int .i64 j)).run Tryd.prog w = .ok (.agg (kindV y)) w := by
    intro j hj y hy
    match j, hj with
    | 0, _ => obtain rfl := Option.some.inj hy; show _ = _; kernel_rfl
    | 1, _ => obtain rfl := Option.some.inj hy; show _ = _; kernel_rfl
    | 2, _ => obtain rfl := Option.some.inj hy; show _ = _; kernel_rfl
    | 3, _ => obtain rfl := Option.some.inj hy; show _ = _; kernel_rfl
    | 4, _ => obtain rfl := Option.some.inj hy; show _ = _; kernel_rfl
    | 5, _ => obtain rfl := Option.some.inj hy; show _ = _; kernel_rfl
    | 6, _ => obtain rfl := Option.some.inj hy; show _ = _; kernel_rfl
    | 7, _ => obtain rfl := Option.some.inj hy; show _ = _; kernel_rfl
    | 8, _ => obtain rfl := Option.some.inj hy; show _ = _; kernel_rfl
    | 9, _ => obtain rfl := Option.some.inj hy; show _ = _; kernel_rfl
    | 10, _ => obtain rfl := Option.some.inj hy; show _ = _; kernel_rfl
    | 11, _ => obtain rfl := Option.some.inj hy; show _ = _; kernel_rfl
    | 12, _ => obtain rfl := Option.some.inj hy; show _ = _; kernel_rfl
    | 13, _ => obtain rfl := Option.some.inj hy; show _ = _; kernel_rfl
    | 14, _ => obtain rfl := Option.some.inj hy; show _ = _; kernel_rfl
    | 15, _ => obtain rfl := Option.some.inj hy; show _ = _; kernel_rfl
    | 16, _ => obtain rfl := Option.some.inj hy; show _ = _; kernel_rfl
    | 17, _ => obtain rfl := Option.some.inj hy; show _ = _; kernel_rfl
    | 18, _ => obtain rfl := Option.some.inj hy; show _ = _; kernel_rfl
    | 19, _ => obtain rfl := Option.some.inj hy; show _ = _; kernel_rfl
    | 20, _ => obtain rfl := Option.some.inj hy; show _ = _; kernel_rfl
    | 21, _ => obtain rfl := Option.some.inj hy; show _ = _; kernel_rfl
    | 22, _ => obtain rfl := Option.some.inj hy; show _ = _; kernel_rfl
    | 23, _ => obtain rfl := Option.some.inj hy; show _ = _; kernel_rfl
    | 24, _ => obtain rfl := Option.some.inj hy; show _ = _; kernel_rfl
    | j + 25, h => omega
  exact key k hk x h
theorem kinds_info : (Tryd.prog.info? 87).map (·.size) = some 100 := by kernel_rfl

set_option maxHeartbeats 4000000 in
theorem kindOf_calls (i : Ins) (w : World) (hL : Lai w) (hx : ∃ x ∈ kindsT, fitK i x) :
    Calls Tryd.prog 30 #[.agg #[.int .i64 i.op, .int .i64 i.a, .int .i64 i.b, .int .i64 i.c, .int .i64 i.n]] w fun e w' => ∃ x ∈ kindsT, fitK i x ∧ e = .returned (.agg #[.string (txt x.1), .int .i64 x.2.1, .int .i64 x.2.2.1, .string (txt x.2.2.2)]) ∧ More w w' := by
  obtain ⟨⟨t0, fz, hk⟩, _⟩ := hL
  suffices hP : ∀ P : Ending → World → Prop, (∀ x w', x ∈ kindsT → fitK i x → More w w' → P (.returned (.agg #[.string (txt x.1), .int .i64 x.2.1, .int .i64 x.2.2.1, .string (txt x.2.2.2)])) w') → Calls Tryd.prog 30 #[.agg #[.int .i64 i.op, .int .i64 i.a, .int .i64 i.b, .int .i64 i.c, .int .i64 i.n]] w P from hP _ (fun x w' a b m => ⟨x, a, b, rfl, m⟩)
  intro P hP0
  obtain ⟨op, a, b, c, n⟩ := i
  have HP : Hid (∀ x w', x ∈ kindsT → (x.2.1 = op ∧ (x.2.2.1 = 0 ∨ x.2.2.1 = c)) → More w w' → P (.returned (.agg #[.string (txt x.1), .int .i64 x.2.1, .int .i64 x.2.2.1, .string (txt x.2.2.2)])) w') := hP0
  have HX : Hid (∃ x ∈ kindsT, x.2.1 = op ∧ (x.2.2.1 = 0 ∨ x.2.2.1 = c)) := hx
  clear hP0 hx
  dsimp only
  obtain ⟨KA, HKA⟩ : ∃ x, Hid (kindsC.toArray = x) := ⟨_, rfl⟩
  rw [HKA.out] at hk
  have hi : (Tryd.prog.info? 87).map (·.size) = some KA.size := by rw [← HKA.out]; exact kinds_info
  have Hix : Hid (∀ (k : Nat) (x : Kd), kindsT[k]? = some x → ∀ w1, (Instr.index 87 (.agg KA) (.int .i64 k)).run Tryd.prog w1 = .ok (.agg #[.string (txt x.1), .int .i64 x.2.1, .int .i64 x.2.2.1, .string (txt x.2.2.2)]) w1) := fun k x h w1 => by rw [← HKA.out]; exact kind_index h w1
  obtain ⟨W, HW⟩ : ∃ w_ : World, Hid (w_ = (w.alloc (.cells #[.int .i64 op, .int .i64 a, .int .i64 b, .int .i64 c, .int .i64 n] 49)).alloc (.cells #[.string ⟨#[]⟩, .int .i64 0, .int .i64 0, .string ⟨#[]⟩] 70)) := ⟨_, rfl⟩
  have HmW : Hid (More w W) := HW.out ▸ ((More.refl _).alloc _ _).alloc _ _
  have HbI : Hid (Blk W w.heap.size #[.int .i64 op, .int .i64 a, .int .i64 b, .int .i64 c, .int .i64 n] 49) := HW.out ▸ (Blk.last _ _ _).alloc _ _
  have HbR : Hid (Blk W (w.heap.size + 1) #[.string ⟨#[]⟩, .int .i64 0, .int .i64 0, .string ⟨#[]⟩] 70) := by rw [HW.out]; show Blk _ _ _ _; simpa using Blk.last (w.alloc (.cells #[.int .i64 op, .int .i64 a, .int .i64 b, .int .i64 c, .int .i64 n] 49)) #[.string ⟨#[]⟩, .int .i64 0, .int .i64 0, .string ⟨#[]⟩] 70
  have hkW : W.heap[0]? = some (.cells KA t0 fz) := heap_more HmW.out hk
  clear hk
  go_enter Tryd.func30, Tryd.ntmps30
  go_wp2_with (rw [← HW.out]; refine wpList_load_row rfl 87 (.global 0) rfl 0 rfl t0 KA fz _ hkW Tryd.underlying87 rfl hi ?_)
  go_loopg [6] 25 (fun g kv wr => ∃ k : Nat, k + g = 25 ∧ kv = .int .i64 k ∧ Hid (More W wr ∧ ∀ (j : Nat) (x : Kd), j < k → kindsT[j]? = some x → ¬ (x.2.1 = op ∧ (x.2.2.1 = 0 ∨ x.2.2.1 = c))))
  case atStart => exact ⟨0, by omega, rfl, More.refl _, fun j x h => absurd h (Nat.not_lt_zero _)⟩
  case round =>
    obtain ⟨k, hkg, rfl, Hr⟩ := hrel
    have i0 : wr.cell? ⟨w.heap.size, 0, none⟩ = some (.int .i64 op) := (HbI.out.more Hr.out.1).cell rfl
    have i3 : wr.cell? ⟨w.heap.size, 3, none⟩ = some (.int .i64 c) := (HbI.out.more Hr.out.1).cell rfl
    have lt1 := (HbR.out.more Hr.out.1).lt
    have lt0 := (HbI.out.more Hr.out.1).lt
    cases gk with
    | zero =>
      exfalso
      obtain ⟨x, hx, f⟩ := HX.out
      obtain ⟨j, hj, e⟩ := List.getElem_of_mem hx
      exact Hr.out.2 j x (by rw [kindsT_length] at hj; omega) (by rw [List.getElem?_eq_getElem hj, e]) f
    | succ g =>
      have hk : k < 25 := by omega
      have hki : (k : Int) < 25 := by omega
      have hk63 : wrap64 ((k : Int) + 1) = (k : Int) + 1 := by unfold wrap64; omega
      obtain ⟨x, hxk⟩ : ∃ x, kindsT[k]? = some x := ⟨kindsT[k]'(by rw [kindsT_length]; exact hk), List.getElem?_eq_getElem _⟩
      have hix := Hix.out k x hxk
      have Hxk : Hid (x ∈ kindsT) := kind_cases hxk
      have Hyes : Hid ((x.2.1 = op ∧ (x.2.2.1 = 0 ∨ x.2.2.1 = c)) → ∀ w', More w w' → P (.returned (.agg #[.string (txt x.1), .int .i64 x.2.1, .int .i64 x.2.2.1, .string (txt x.2.2.2)])) w') := fun f w' m => HP.out x w' Hxk.out f m
      have Hno : Hid (¬ (x.2.1 = op ∧ (x.2.2.1 = 0 ∨ x.2.2.1 = c)) → ∀ w', More W w' → ∃ k' : Nat, k' + g = 25 ∧ Value.int .i64 ((k : Int) + 1) = .int .i64 k' ∧ Hid (More W w' ∧ ∀ (j : Nat) (x : Kd), j < k' → kindsT[j]? = some x → ¬ (x.2.1 = op ∧ (x.2.2.1 = 0 ∨ x.2.2.1 = c)))) := fun f w' m => by
        refine ⟨k + 1, by omega, by simp, m, fun j y hj hy => ?_⟩
        by_cases e : j = k
        · subst e
          rw [hxk] at hy
          obtain rfl := Option.some.inj hy
          exact f
        · exact Hr.out.2 j y (by omega) hy
      obtain ⟨xw, xo, xc, xf⟩ := x
      dsimp only at hix Hyes Hno
      obtain ⟨tw, Htw⟩ : ∃ y, Hid (txt xw = y) := ⟨_, rfl⟩
      obtain ⟨tf, Htf⟩ : ∃ y, Hid (txt xf = y) := ⟨_, rfl⟩
      rw [Htw.out, Htf.out] at hix Hyes
      have HmR : Hid (More W wr) := Hr.out.1
      clear Hix HP HX Hr hxk Hxk Htw Htf
      obtain ⟨wk, Hwk⟩ : ∃ w_ : World, Hid (w_ = wr.alloc (.cells #[.string tw, .int .i64 xo, .int .i64 xc, .string tf] 70)) := ⟨_, rfl⟩
      have Hm2 : Hid (More W wk) := HmR.out.trans (Hwk.out ▸ (More.refl _).alloc _ _)
      have Hmx : Hid (∀ v0 v1 v2 v3, More w ((((wr.setCell ⟨w.heap.size + 1, 0, none⟩ v0).setCell ⟨w.heap.size + 1, 1, none⟩ v1).setCell ⟨w.heap.size + 1, 2, none⟩ v2).setCell ⟨w.heap.size + 1, 3, none⟩ v3)) := fun v0 v1 v2 v3 =>
        ((((HmW.out.trans HmR.out).setCell (by show w.heap.size ≤ w.heap.size + 1; omega) _).setCell (by show w.heap.size ≤ w.heap.size + 1; omega) _).setCell (by show w.heap.size ≤ w.heap.size + 1; omega) _).setCell (by show w.heap.size ≤ w.heap.size + 1; omega) _
      have zz : ∀ j, wr.frozen? ⟨w.heap.size + 1, j, none⟩ = false := fun j => (HbR.out.more HmR.out).frozen j
      have z0 : wr.cell? ⟨w.heap.size + 1, 0, none⟩ = some (.string ⟨#[]⟩) := (HbR.out.more HmR.out).cell rfl
      have z1 : wr.cell? ⟨w.heap.size + 1, 1, none⟩ = some (.int .i64 0) := (HbR.out.more HmR.out).cell rfl
      have z2 : wr.cell? ⟨w.heap.size + 1, 2, none⟩ = some (.int .i64 0) := (HbR.out.more HmR.out).cell rfl
      have z3 : wr.cell? ⟨w.heap.size + 1, 3, none⟩ = some (.string ⟨#[]⟩) := (HbR.out.more HmR.out).cell rfl
      by_cases e1 : xo = op
      · subst e1
        by_cases e2 : xc = 0
        · subst e2
          have HE : Hid (∀ w', More w w' → P (.returned (.agg #[.string tw, .int .i64 xo, .int .i64 0, .string tf])) w') := Hyes.out ⟨rfl, .inl rfl⟩
          clear Hyes Hno
          go_wp2
          refine bodyPost_ret (by simp [results, Tryd.results30, go_sem, *]) rfl (HE.out _ ?_)
          exact (Hmx.out _ _ _ _).alloc _ _
        · by_cases e3 : xc = c
          · subst e3
            have HE : Hid (∀ w', More w w' → P (.returned (.agg #[.string tw, .int .i64 xo, .int .i64 xc, .string tf])) w') := Hyes.out ⟨rfl, .inr rfl⟩
            clear Hyes Hno
            go_wp2
            refine bodyPost_ret (by simp [results, Tryd.results30, go_sem, *]) rfl (HE.out _ ?_)
            exact (Hmx.out _ _ _ _).alloc _ _
          · have HN := hid_tb (Hno.out (by omega) wk Hm2.out)
            have q1 : (xc == 0) = false := by simp [e2]
            have q2 : (xc == c) = false := by simp [e3]
            clear Hyes Hno Hmx z0 z1 z2 z3 zz
            go_wp2
            go_roundg g
            case measure => omega
            case rel => rw [← Hwk.out]; exact HN.out
      · have HN := hid_tb (Hno.out (by omega) wk Hm2.out)
        clear Hyes Hno Hmx z0 z1 z2 z3 zz
        go_wp2
        go_roundg g
        case measure => omega
        case rel => rw [← Hwk.out]; exact HN.out
theorem ent_tellR : ∀ args w, (callFunc 29 args).run Tryd.prog w = .ok (.enter 29 args) w := enters_of Tryd.func29 (by kernel_rfl) rfl
theorem ent_tellI : ∀ args w, (callFunc 31 args).run Tryd.prog w = .ok (.enter 31 args) w := enters_of Tryd.func31 (by kernel_rfl) rfl

set_option maxHeartbeats 2000000 in
theorem regline_calls (lg : Int) (sec : Bool) (hb : B64 lg) (w : World) (hL : Lai w) :
    Calls Tryd.prog 15 #[.agg #[.int .i64 lg, .bool sec]] w fun e w' => e = .returned (.string (txt (rgnL ++ writL (fun _ => lg) (regF sec)))) ∧ More w w' := by
  suffices hP : ∀ P : Ending → World → Prop, (∀ w', More w w' → P (.returned (.string (txt (rgnL ++ writL (fun _ => lg) (regF sec))))) w') → Calls Tryd.prog 15 #[.agg #[.int .i64 lg, .bool sec]] w P from hP _ (fun w' m => ⟨rfl, m⟩)
  intro P hP0
  obtain ⟨W, HW⟩ : ∃ w_ : World, Hid (w_ = w.alloc (.cells #[.int .i64 lg, .bool sec] 42)) := ⟨_, rfl⟩
  have HmW : Hid (More w W) := HW.out ▸ (More.refl _).alloc _ _
  have HbW : Hid (Blk W w.heap.size #[.int .i64 lg, .bool sec] 42) := HW.out ▸ Blk.last _ _ _
  have CW : Hid (∀ F, F = txt (regF sec) → Calls Tryd.prog 28 #[.string F, .func (.func 29) #[] #[.pointer (some ⟨w.heap.size, 0, none⟩)]] W fun e w' => ∃ d : ByteArray, e = .returned (.string d) ∧ d = txt (writL (fun _ => lg) (regF sec)) ∧ d.size ≤ 200 ∧ More W w') := fun F hF => by
    rw [hF]
    refine (written_calls (regF sec) (regF_fields sec).1 (by rw [(regF_fields sec).2]; omega) (fun _ => lg) (fun _ => hb) 29 (.pointer (some ⟨w.heap.size, 0, none⟩)) W (hL.more HmW.out) ent_tellR (fun c w1 m => tellR_calls lg sec w.heap.size c w1 (HbW.out.more m))).mono ?_
    rintro e w' ⟨rfl, m⟩
    refine ⟨_, rfl, rfl, ?_, m⟩
    rw [txt_size]
    have := writL_length (fun _ => lg) (regF sec)
    rw [(regF_fields sec).2] at this
    omega
  have HP : Hid (∀ (d : ByteArray) w', d = txt (writL (fun _ => lg) (regF sec)) → More W w' → P (.returned (.string (txt rgnL ++ d))) w') := fun d w' hd m => by
    have := hP0 w' (HmW.out.trans m)
    rw [hd, txt_app]
    exact this
  have b1 : W.cell? ⟨w.heap.size, 1, none⟩ = some (.bool sec) := HbW.out.cell rfl
  clear hP0 hL hb
  have hmf : ∀ (fn : Fn) (first cap : Array Value) (w : World), (Instr.makeFunc fn first cap).run Tryd.prog w = .ok (.func fn first cap) w := fun _ _ _ _ => rfl
  cases sec
  all_goals
    go_enter Tryd.func15, Tryd.ntmps15
    go_wp2_with (fail)
    rw [← HW.out]
    refine (CW.out _ rfl).mono ?_
    rintro e w1 ⟨d, rfl, hd, hz, m1⟩
    have HE := hid_tb (HP.out d w1 hd m1)
    clear hd m1 HP CW b1
    go_wp2
    exact HE.out

set_option maxHeartbeats 4000000 in
theorem insline_calls (i : Ins) (hb : B64 i.a ∧ B64 i.b ∧ B64 i.c ∧ B64 i.n) (hx : ∃ x ∈ kindsT, fitK i x) (w : World) (hL : Lai w) :
    Calls Tryd.prog 16 #[.agg #[.int .i64 i.op, .int .i64 i.a, .int .i64 i.b, .int .i64 i.c, .int .i64 i.n]] w fun e w' => ∃ d : ByteArray, e = .returned (.string d) ∧ d ++ txt [10] = txt (lineL i) ∧ d.size ≤ 240 ∧ More w w' := by
  suffices hP : ∀ P : Ending → World → Prop, (∀ (d : ByteArray) w', d ++ txt [10] = txt (lineL i) → d.size ≤ 240 → More w w' → P (.returned (.string d)) w') → Calls Tryd.prog 16 #[.agg #[.int .i64 i.op, .int .i64 i.a, .int .i64 i.b, .int .i64 i.c, .int .i64 i.n]] w P from hP _ (fun d w' h z m => ⟨d, rfl, h, z, m⟩)
  intro P hP0
  have htl : ∀ c, B64 (tellI i c) := fun c => by
    unfold tellI
    split
    · exact hb.1
    · split
      · exact hb.2.1
      · split
        · exact hb.2.2.1
        · exact hb.2.2.2
  have CK : Hid (∀ w1, Lai w1 → Calls Tryd.prog 30 #[.agg #[.int .i64 i.op, .int .i64 i.a, .int .i64 i.b, .int .i64 i.c, .int .i64 i.n]] w1 fun e w' => ∃ x ∈ kindsT, fitK i x ∧ e = .returned (.agg #[.string (txt x.1), .int .i64 x.2.1, .int .i64 x.2.2.1, .string (txt x.2.2.2)]) ∧ More w1 w') := fun w1 h => kindOf_calls i w1 h hx
  have CW : Hid (∀ b w1 (x : Kd), x ∈ kindsT → Lai w1 → Blk w1 b #[.int .i64 i.op, .int .i64 i.a, .int .i64 i.b, .int .i64 i.c, .int .i64 i.n] 49 → Calls Tryd.prog 28 #[.string (txt x.2.2.2), .func (.func 31) #[] #[.pointer (some ⟨b, 0, none⟩)]] w1 fun e w' => ∃ d : ByteArray, e = .returned (.string d) ∧ d = txt (writL (tellI i) x.2.2.2) ∧ d.size ≤ 231 ∧ More w1 w') := fun b w1 x hx h hbk => by
    have hf := kind_fields hx
    refine (written_calls x.2.2.2 (fun c hc => (hf.1 c hc).1) (by have := hf.2; omega) (tellI i) htl 31 (.pointer (some ⟨b, 0, none⟩)) w1 h ent_tellI (fun c w2 m => tellI_calls i b c w2 (hbk.more m))).mono ?_
    rintro e w' ⟨rfl, m⟩
    refine ⟨_, rfl, rfl, ?_, m⟩
    rw [txt_size]
    have := writL_length (tellI i) x.2.2.2
    have := hf.2
    omega
  have HP : Hid (∀ (x : Kd) (d : ByteArray) w', x ∈ kindsT → fitK i x → d = txt (writL (tellI i) x.2.2.2) → d.size ≤ 231 → More w w' → P (.returned (.string (txt x.1 ++ d))) w') := fun x d w' hx hf hd hz m => by
    refine hP0 _ w' ?_ ?_ m
    · rw [hd, txt_app, txt_app, kind_line hx hf]
    · have h1 : ∀ x ∈ kindsT, x.1.length ≤ 5 := by decide
      have := h1 x hx
      have e : (txt x.1 ++ d).size = (txt x.1).size + d.size := by simp
      rw [e, txt_size]
      omega
  have HL : Hid (Lai w) := hL
  clear hP0 hL hb hx htl
  obtain ⟨op, a, b, c, n⟩ := i
  dsimp only at CK CW ⊢
  obtain ⟨W, HW⟩ : ∃ w_ : World, Hid (w_ = w.alloc (.cells #[.int .i64 op, .int .i64 a, .int .i64 b, .int .i64 c, .int .i64 n] 49)) := ⟨_, rfl⟩
  have HmW : Hid (More w W) := HW.out ▸ (More.refl _).alloc _ _
  have HbW : Hid (Blk W w.heap.size #[.int .i64 op, .int .i64 a, .int .i64 b, .int .i64 c, .int .i64 n] 49) := HW.out ▸ Blk.last _ _ _
  have hmf : ∀ (fn : Fn) (first cap : Array Value) (w : World), (Instr.makeFunc fn first cap).run Tryd.prog w = .ok (.func fn first cap) w := fun _ _ _ _ => rfl
  go_enter Tryd.func16, Tryd.ntmps16
  go_wp2_with (fail)
  rw [← HW.out]
  refine (CK.out W (HL.out.more HmW.out)).mono ?_
  rintro e w1 ⟨x, hx, hf, rfl, m1⟩
  have Hm1 : Hid (More W w1) := m1
  have HP1 := hid_tb (fun d w' => HP.out x d w' hx hf)
  have CW1 := hid_tb (fun w1 => CW.out w.heap.size w1 x hx)
  have h1 : ∀ x ∈ kindsT, x.1.length ≤ 5 := by decide
  have hz1 : (txt x.1).size ≤ 5 := by rw [txt_size]; exact h1 x hx
  clear m1 CK HP CW hx hf h1
  obtain ⟨xw, xo, xc, xf⟩ := x
  dsimp only at HP1 CW1 hz1 ⊢
  obtain ⟨tw, Htw⟩ : ∃ y, Hid (txt xw = y) := ⟨_, rfl⟩
  obtain ⟨tf, Htf⟩ : ∃ y, Hid (txt xf = y) := ⟨_, rfl⟩
  rw [Htw.out] at HP1 hz1 ⊢
  rw [Htf.out] at CW1 ⊢
  obtain ⟨W2, HW2⟩ : ∃ w_ : World, Hid (w_ = w1.alloc (.cells #[.string tw, .int .i64 xo, .int .i64 xc, .string tf] 70)) := ⟨_, rfl⟩
  have Hm2 : Hid (More W W2) := Hm1.out.trans (HW2.out ▸ (More.refl _).alloc _ _)
  have Hb2 : Hid (Blk W2 w1.heap.size #[.string tw, .int .i64 xo, .int .i64 xc, .string tf] 70) := HW2.out ▸ Blk.last _ _ _
  obtain ⟨S, HS⟩ : ∃ S : World → Prop, Hid (∀ w', S w' ↔ Blk w' w1.heap.size #[.string tw, .int .i64 xo, .int .i64 xc, .string tf] 70) := ⟨_, fun _ => Iff.rfl⟩
  have HSm : Hid (∀ w', More W2 w' → S w') := fun w' m => (HS.out _).2 (Hb2.out.more m)
  have HS0 : S W2.drew := HSm.out _ (More.refl _).drew
  have hne : Nonempty { w' // S w' } := ⟨⟨_, HS0⟩⟩
  have k0 : ∀ i : { w' // S w' }, i.val.cell? ⟨w1.heap.size, 0, none⟩ = some (.string tw) := fun i => ((HS.out _).1 i.property).cell rfl
  have k3 : ∀ i : { w' // S w' }, i.val.cell? ⟨w1.heap.size, 3, none⟩ = some (.string tf) := fun i => ((HS.out _).1 i.property).cell rfl
  go_wp2_with (fail)
  rw [← HW2.out]
  refine wp_region_ord (S := S) [(0, true), (1, true), (2, true), (3, true), (4, true), (5, false), (6, true), (7, true)] (by kernel_rfl) (by kernel_rfl) (by kernel_rfl) HS0 ?_
  iterate 5 (refine wpOrd_take rfl (by kernel_rfl) (fun K hK => ?_); go_simp; refine hK _ _ ?_; clear hK K)
  refine wpOrd_busy rfl (by kernel_rfl) (fun K hK => ?_); go_simp
  refine (CW1.out _ ((HL.out.more (HmW.out.trans Hm2.out)).more (More.refl _).drew) ((HbW.out.more Hm2.out).more (More.refl _).drew)).mono ?_
  rintro e w2 ⟨d, rfl, hd, hz, m2⟩
  have HS2 : S w2 := HSm.out _ ((More.refl _).drew.trans m2)
  have HE := hid_tb (HP1.out d w2 hd hz ((HmW.out.trans Hm2.out).trans ((More.refl _).drew.trans m2)))
  clear m2 hd HP1 CW1
  go_simp
  refine hK _ _ HS2 ?_; clear hK K
  have hsum : ¬ 9223372036854775807 < tw.size + d.size := by omega
  iterate 2 (refine wpOrd_take rfl (by kernel_rfl) (fun K hK => ?_); go_simp; refine hK _ _ ?_; clear hK K)
  refine wpOrd_done ?_
  clear k0 k3 hne HS0 HS2
  go_wp2
  exact HE.out
end
section
open Go.RowKit
set_option maxHeartbeats 400000 in
theorem regions_calls (ra : Option Addr) (rl rc : Nat) (ca : Option Addr) (cl cc : Nat) (code regs : Int) (b o : Nat) (log : Nat → Int) (sec : Nat → Bool) (w : World)
    (hra : 0 < rl → ra = some ⟨b, o, none⟩) (hr : RegsAt w b o rl log sec) :
    Calls Tryd.prog 41 #[.agg #[.slice ra rl rc, .slice ca cl cc, .int .i64 code, .int .i64 regs]] w (Says (RegionsOk rl log) w) := by
  by_cases h6 : 6 < rl
  · have Hr : Hid (RegsAt w b o rl log sec) := hr
    clear hr
    have h6' : (6 : Int) < (rl : Int) := by omega
    go_enter Tryd.func41, Tryd.ntmps41
    go_wp2
    go_ret
    exact Says.no (fun h => by have := h.1; omega) ((More.refl _).alloc _ _)
  · have h6' : ¬ (6 : Int) < (rl : Int) := by omega
    have Hr : Hid (RegsAt w b o rl log sec) := hr
    have Ha : Hid (0 < rl → ra = some ⟨b, o, none⟩) := hra
    clear hr hra
    go_enter Tryd.func41, Tryd.ntmps41
    go_wp2
    go_loopg [14] rl (fun g i wr => ∃ k : Nat, k + g = rl ∧ i = .int .i64 k ∧ (∀ j, j < k → 0 ≤ log j ∧ log j ≤ 6) ∧ More w wr)
    case atStart => exact ⟨0, by omega, rfl, fun j hj => by omega, (More.refl _).alloc _ _⟩
    case round =>
      obtain ⟨k, hkg, rfl, hok, m⟩ := hrel
      have Hm : Hid (More w wr ∧ ∀ j, j < k → 0 ≤ log j ∧ log j ≤ 6) := ⟨m, hok⟩
      clear m hok
      cases gk with
      | zero =>
        obtain rfl : k = rl := by omega
        go_wp2
        go_ret
        exact Says.yes ⟨by omega, Hm.out.2⟩ Hm.out.1
      | succ g =>
        have hk : k < rl := by omega
        have hk' : (k : Int) < (rl : Int) := by omega
        obtain rfl := Ha.out (by omega)
        have hc0 := ((Hr.out.more Hm.out.1) k hk).1
        have hc1 := ((Hr.out.more Hm.out.1) k hk).2
        by_cases hlo : log k < 0
        · go_wp2
          go_ret
          exact Says.no (fun h => by have := (h.2 k hk).1; omega) (by repeat (first | exact Hm.out.1 | apply More.alloc))
        · by_cases hhi : 6 < log k
          · go_wp2
            go_ret
            exact Says.no (fun h => by have := (h.2 k hk).2; omega) (by repeat (first | exact Hm.out.1 | apply More.alloc))
          · go_wp2
            go_roundg g
            case measure => omega
            case rel =>
              refine ⟨k + 1, by omega, by first | rfl | simp, fun j hj => ?_, by repeat (first | exact Hm.out.1 | apply More.alloc)⟩
              by_cases e : j = k
              · subst e; omega
              · exact Hm.out.2 j (by omega)

set_option maxHeartbeats 400000 in
theorem registers_calls (ra : Option Addr) (rl rc : Nat) (ca : Option Addr) (cl cc : Nat) (code regs : Int) (g n c : Nat) (hn : n ≤ 3) (x : Nat → Int) (w : World)
    (hx : ∀ i, i < n → w.cell? ⟨g, i, none⟩ = some (.int .i64 (x i))) :
    Calls Tryd.prog 66 #[.agg #[.slice ra rl rc, .slice ca cl cc, .int .i64 code, .int .i64 regs], .slice (some ⟨g, 0, none⟩) n c] w (Says (∀ i, i < n → Reg regs (x i)) w) := by
  have Hx : Hid (∀ i, i < n → w.cell? ⟨g, i, none⟩ = some (.int .i64 (x i))) := hx
  clear hx
  go_enter Tryd.func66, Tryd.ntmps66
  go_wp2
  go_loopg [9] n (fun q i wr => ∃ k : Nat, k + q = n ∧ i = .int .i64 k ∧ (∀ j, j < k → Reg regs (x j)) ∧ wr = w.alloc (.cells #[.slice ra rl rc, .slice ca cl cc, .int .i64 code, .int .i64 regs] 65))
  case atStart => exact ⟨0, by omega, rfl, fun j hj => by omega, rfl⟩
  case round =>
    obtain ⟨k, hkg, rfl, hok, rfl⟩ := hrel
    have Hok : Hid (∀ j, j < k → Reg regs (x j)) := hok
    clear hok
    cases gk with
    | zero =>
      obtain rfl : k = n := by omega
      go_wp2
      go_ret
      exact Says.yes Hok.out ((More.refl _).alloc _ _)
    | succ q =>
      have hk : k < n := by omega
      have hk' : (k : Int) < (n : Int) := by omega
      have hc0 := Hx.out k hk
      have hc := ((More.refl w).alloc #[.slice ra rl rc, .slice ca cl cc, .int .i64 code, .int .i64 regs] 65).cell hc0
      clear hc0
      by_cases hlo : x k < 0
      · go_wp2
        go_ret
        exact Says.no (fun h => by have := (h k hk).1; omega) ((More.refl _).alloc _ _)
      · by_cases hhi : regs ≤ x k
        · go_wp2
          go_ret
          exact Says.no (fun h => by have := (h k hk).2; omega) ((More.refl _).alloc _ _)
        · go_wp2
          go_roundg q
          case measure => omega
          case rel =>
            refine ⟨k + 1, by omega, by first | rfl | simp, fun j hj => ?_, rfl⟩
            by_cases e : j = k
            · subst e; exact ⟨by omega, by omega⟩
            · exact Hok.out j (by omega)

theorem region_calls (ra : Option Addr) (rl rc : Nat) (ca : Option Addr) (cl cc : Nat) (code regs : Int) (c : Int) (w : World) :
    Calls Tryd.prog 67 #[.agg #[.slice ra rl rc, .slice ca cl cc, .int .i64 code, .int .i64 regs], .int .i64 c] w (Says (Rgn rl c) w) := by
  by_cases h0 : 0 ≤ c
  · by_cases h1 : c < (rl : Int)
    · go_enter Tryd.func67, Tryd.ntmps67
      go_wp2
      go_ret
      exact Says.yes ⟨h0, h1⟩ ((More.refl _).alloc _ _)
    · go_enter Tryd.func67, Tryd.ntmps67
      go_wp2
      go_ret
      exact Says.no (fun h => by have := h.2; omega) ((More.refl _).alloc _ _)
  · go_enter Tryd.func67, Tryd.ntmps67
    go_wp2
    go_ret
    exact Says.no (fun h => by have := h.1; omega) ((More.refl _).alloc _ _)

theorem lay_below_calls (n e : Int) (w : World) : Calls Tryd.prog 68 #[.int .i64 n, .int .i64 e] w (Says (Blw n e) w) := by
  by_cases h0 : 0 ≤ n
  · by_cases h1 : n < e
    · go_enter Tryd.func68, Tryd.ntmps68
      go_wp2
      go_ret
      exact Says.yes ⟨h0, h1⟩ (More.refl _)
    · go_enter Tryd.func68, Tryd.ntmps68
      go_wp2
      go_ret
      exact Says.no (fun h => by have := h.2; omega) (More.refl _)
  · go_enter Tryd.func68, Tryd.ntmps68
    go_wp2
    go_ret
    exact Says.no (fun h => by have := h.1; omega) (More.refl _)

theorem place_calls (ra : Option Addr) (rl rc : Nat) (ca : Option Addr) (cl cc : Nat) (code regs : Int) (n : Int) (w : World) :
    Calls Tryd.prog 70 #[.agg #[.slice ra rl rc, .slice ca cl cc, .int .i64 code, .int .i64 regs], .int .i64 n] w (Says (Plc cl n) w) := by
  go_enter Tryd.func70, Tryd.ntmps70
  go_wp2_with (fail)
  refine (lay_below_calls _ _ _).mono ?_
  rintro e w1 ⟨r, rfl, hr, m⟩
  have Hr : Hid ((r = true ↔ Plc cl n) ∧ More w w1) := ⟨hr, ((More.refl _).alloc _ _).trans m⟩
  clear hr m
  go_wp2
  go_ret
  exact ⟨r, rfl, Hr.out.1, Hr.out.2⟩

theorem condition_calls (c : Int) (w : World) : Calls Tryd.prog 71 #[.int .i64 c] w (Says (Btw 1 4 c) w) := by
  by_cases h0 : 1 ≤ c
  · by_cases h1 : c ≤ 4
    · go_enter Tryd.func71, Tryd.ntmps71
      go_wp2
      go_ret
      exact Says.yes ⟨h0, h1⟩ (More.refl _)
    · go_enter Tryd.func71, Tryd.ntmps71
      go_wp2
      go_ret
      exact Says.no (fun h => by have := h.2; omega) (More.refl _)
  · go_enter Tryd.func71, Tryd.ntmps71
    go_wp2
    go_ret
    exact Says.no (fun h => by have := h.1; omega) (More.refl _)

theorem operation_calls (c : Int) (w : World) : Calls Tryd.prog 72 #[.int .i64 c] w (Says (Btw 21 30 c) w) := by
  by_cases h0 : 21 ≤ c
  · by_cases h1 : c ≤ 30
    · go_enter Tryd.func72, Tryd.ntmps72
      go_wp2
      go_ret
      exact Says.yes ⟨h0, h1⟩ (More.refl _)
    · go_enter Tryd.func72, Tryd.ntmps72
      go_wp2
      go_ret
      exact Says.no (fun h => by have := h.2; omega) (More.refl _)
  · go_enter Tryd.func72, Tryd.ntmps72
    go_wp2
    go_ret
    exact Says.no (fun h => by have := h.1; omega) (More.refl _)

theorem words_lit (l : Int) (h0 : 0 ≤ l) (h1 : l ≤ 6) (n : Int) (hn : n = wordsI l) (s : Bool) (w : World) :
    Calls Tryd.prog 69 #[.agg #[.int .i64 l, .bool s]] w fun e w' => e = .returned (.int .i64 n) ∧ More w w' := by
  have : l = 0 ∨ l = 1 ∨ l = 2 ∨ l = 3 ∨ l = 4 ∨ l = 5 ∨ l = 6 := by omega
  clear h0 h1
  rcases this with rfl | rfl | rfl | rfl | rfl | rfl | rfl
  all_goals
    simp [wordsI] at hn
    subst hn
    go_enter Tryd.func69, Tryd.ntmps69
    go_wp2
    go_ret
    exact ⟨rfl, (More.refl _).alloc _ _⟩

theorem words_calls (l : Int) (h0 : 0 ≤ l) (h1 : l ≤ 6) (s : Bool) (w : World) :
    Calls Tryd.prog 69 #[.agg #[.int .i64 l, .bool s]] w fun e w' => e = .returned (.int .i64 (wordsI l)) ∧ More w w' :=
  words_lit l h0 h1 _ rfl s w
end
end Go.Proofs.YtoedgnedallhnaaDoor
