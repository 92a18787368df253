/-
  A machine ahead of its first step, as data: what New lays, region by region. Plain facts, but for the rows of the type itself.
-/
import Derived.Test.YtdlhlhbbhjbkpaaMeth
import Derived.Test.YtdlhlhbbhjbkpaaCode
import Derived.Test.YtdlhlhbbhjbkpaaFits
import Derived.Laws.IdiomCopy
namespace Go.Proofs.Ytdlhlhbbhjbkpaa
open Go.RowKit
set_option linter.unusedVariables false
set_option linter.unusedSimpArgs false
set_option maxRecDepth 8000

def rowOf (rv cv : Value) (x : Ms) : Array Value := ((List.range 411).map (cellF rv cv x)).toArray
theorem rowOf_mc (rv cv : Value) (x : Ms) : MC (rowOf rv cv x) rv cv x := ⟨by simp [rowOf], fun j hj => by simp [rowOf, hj]⟩
def ms0 (fuel : Int) : Ms := ⟨0, 0, 0, .slice none 0 0, .slice none 0 0, fun _ => 0, fun _ => 0, 0, fuel, false, fun _ => 0⟩
theorem MC.one {c : Array Value} {rv cv : Value} {x : Ms} (h : MC c rv cv x) (h0 : rv.oneCell' = true) (h1 : cv.oneCell' = true) (h2 : x.sv.oneCell' = true) (h3 : x.mv.oneCell' = true) : c.all (·.oneCell') = true := by
  rw [Array.all_eq_true]
  intro i hi
  have := h.at_ i (by rw [← h.size]; exact hi)
  rw [Array.getElem?_eq_getElem hi] at this
  rw [Option.some.inj this]
  unfold cellF
  by_cases e0 : i = 0
  · rw [if_pos e0]; exact h0
  rw [if_neg e0]
  by_cases e1 : i = 1
  · rw [if_pos e1]; exact h1
  rw [if_neg e1]
  by_cases e2 : i = 2
  · rw [if_pos e2]; rfl
  rw [if_neg e2]
  by_cases e3 : i = 3
  · rw [if_pos e3]; rfl
  rw [if_neg e3]
  by_cases e4 : i = 4
  · rw [if_pos e4]; rfl
  rw [if_neg e4]
  by_cases e5 : i = 5
  · rw [if_pos e5]; exact h2
  rw [if_neg e5]
  by_cases e6 : i = 6
  · rw [if_pos e6]; exact h3
  rw [if_neg e6]
  by_cases e7 : i < 17
  · rw [if_pos e7]; rfl
  rw [if_neg e7]
  by_cases e8 : i < 401
  · rw [if_pos e8]; rfl
  rw [if_neg e8]
  by_cases e9 : i = 401
  · rw [if_pos e9]; rfl
  rw [if_neg e9]
  by_cases e10 : i = 402
  · rw [if_pos e10]; rfl
  rw [if_neg e10]
  by_cases e11 : i = 403
  · rw [if_pos e11]; rfl
  rw [if_neg e11]
  rfl

theorem info70 : (Try.prog.info? 70).map (fun i => (i.zero, i.size)) = some (some (.agg (rowOf (.slice none 0 0) (.slice none 0 0) (ms0 0))), 411) := by kernel_rfl
theorem built70_none : Try.prog.built 70 [] = some (rowOf (.slice none 0 0) (.slice none 0 0) (ms0 0)) := by kernel_rfl
theorem built70 (rv cv : Value) (fuel : Int) : Try.prog.built 70 [(0, .agg #[rv, cv]), (3, .int .i64 fuel)] = some (rowOf rv cv (ms0 fuel)) := by kernel_rfl

theorem results_row_tmp {P : Program} {fn : Func} {p u : Tmp} {ty : TypeId} (h : fn.results = #[.cell p ty, .tmp u]) (tmps : Array Value) (w : World) (g : Nat) (t : TypeId) (cs : Array Value) (fr : Nat × Nat) (d : TypeDesc)
    (hp : tmps.getD p undef = .pointer (some ⟨g, 0, none⟩)) (hg : w.heap[g]? = some (.cells cs t fr))
    (hu : P.underlying ty = some d) (hd : (match d with | .struct _ | .array _ _ => true | _ => false) = true) (hi : (P.info? ty).map (·.size) = some cs.size) :
    (results fn tmps).run P w = .ok (.tuple #[.agg cs, tmps.getD u undef]) w := by
  have hp' : tmps[p]?.getD undef = .pointer (some ⟨g, 0, none⟩) := by simpa using hp
  simp [results, h, hp', asAddr, run_loadVar_row w g t ty cs fr d hg hu hd hi]

theorem wp_copy_cells {P : Program} {o : Oper} {a : Act} {w : World} {K : Act → World → Prop} {Q : Exit → Act → World → Prop} (d s : Operand) (dT sT : TypeId)
    (ho : o.op = .call { callee := .builtin .copy, args := #[d, s], argTypes := #[dT, sT] }) (elem : TypeId) (hu : P.underlying dT = some (.slice elem)) (hsz : (P.info? elem).map (·.size) = some 1)
    (b off dLen dCap : Nat) (ad : Addr) (sLen sCap : Nat) (hd : a.eval d = .slice (some ⟨b, off, none⟩) dLen dCap) (hs : a.eval s = .slice (some ad) sLen sCap) (cs : List Value) (hn : cs.length = Nat.min sLen dLen)
    (hsrc : ∀ j v, cs[j]? = some v → w.cell? (ad.add j) = some v) (hc : ∀ j, j < cs.length → (w.cell? ⟨b, off + j, none⟩).isSome = true) (hf : ∀ j, j < cs.length → w.frozen? ⟨b, off + j, none⟩ = false) (h1 : ∀ v ∈ cs, v.oneCell' = true)
    (h : K (a.put o.dst (goInt cs.length)) (w.setCells b off cs)) : Oper.wp P o a w K Q := by
  have hrun := run_copy_cells (P := P) w dT sT o.type elem b off dLen dCap ad sLen sCap cs hu hsz hn hsrc hc hf h1
  unfold Oper.wp
  simp [execOp, ho, resolve, invoke, builtin, hd, hs, hrun, Result.andThen]
  exact h

def baseN (len : Nat → Nat) : Nat → Nat
  | 0 => 0
  | k + 1 => baseN len k + len k
theorem baseN_le (len : Nat → Nat) : ∀ k, (∀ j, j < k → len j ≤ 64) → baseN len k ≤ 64 * k
  | 0, _ => by simp [baseN]
  | k + 1, h => by
    have := baseN_le len k (fun j hj => h j (by omega))
    have := h k (by omega)
    simp only [baseN]
    omega
theorem baseN_mono (len : Nat → Nat) (a : Nat) : ∀ k, a ≤ k → baseN len a ≤ baseN len k
  | 0, h => by obtain rfl : a = 0 := by omega
               exact Nat.le_refl _
  | k + 1, h => by
    by_cases e : a = k + 1
    · subst e; exact Nat.le_refl _
    · have := baseN_mono len a k (by omega)
      simp only [baseN]
      omega

def intsN (f : Nat → Int) (n : Nat) : List Value := (List.range n).map fun j => .int .i64 (f j)
theorem intsN_length (f : Nat → Int) (n : Nat) : (intsN f n).length = n := by simp [intsN]
theorem intsN_at (f : Nat → Int) (n j : Nat) (h : j < n) : (intsN f n)[j]? = some (.int .i64 (f j)) := by simp [intsN, h]
theorem intsN_succ (f : Nat → Int) (n : Nat) : intsN f (n + 1) = .int .i64 (f 0) :: intsN (fun j => f (j + 1)) n := by simp [intsN, List.range_succ_eq_map]

theorem grown_setCells (M : Nat) : ∀ (vs : List Value) (o : Nat) (w : World), w.grownBy (w.setCells M o vs) (some M)
  | [], o, w => grown_refl _ _
  | v :: vs, o, w => grown_trans (grown_set w M o v) (grown_setCells M vs (o + 1) _)

theorem MAt.fill {M : Nat} {rv cv : Value} : ∀ (n : Nat) (f : Nat → Int) (k : Nat) (x : Ms) (w : World), MAt w M rv cv x → k + n ≤ 384 →
    ∃ W, MAt (w.setCells M (17 + k) (intsN f n)) M rv cv { x with wd := W } ∧ (∀ j, j < n → W (k + j) = f j) ∧ (∀ j, j < k → W j = x.wd j)
  | 0, f, k, x, w, h, _ => ⟨x.wd, h, fun j hj => by omega, fun j _ => rfl⟩
  | n + 1, f, k, x, w, h, hk => by
    obtain ⟨W, h1, h2, h3⟩ := MAt.fill n (fun j => f (j + 1)) (k + 1) { x with wd := setN x.wd k (f 0) } (w.setCell ⟨M, 17 + k, none⟩ (.int .i64 (f 0))) (h.setWd k (by omega) (f 0)) (by omega)
    refine ⟨W, ?_, fun j hj => ?_, fun j hj => ?_⟩
    · rw [intsN_succ]
      exact h1
    · cases j with
      | zero =>
        have := h3 k (by omega)
        dsimp only at this
        rw [Nat.add_zero, this]
        simp [setN]
      | succ j =>
        have := h2 j (by omega)
        rw [show k + (j + 1) = k + 1 + j by omega]
        exact this
    · have := h3 j (by omega)
      dsimp only at this
      rw [this]
      unfold setN
      rw [if_neg (by omega)]

/-- Where New stands: the words of so many regions are laid. -/
structure Nw (w wr : World) (rv cv : Value) (B : Nat) (m : Mem) (fuel : Int) (z : Array Value) (k : Nat) (W S : Nat → Int) : Prop where
  more : More w wr
  lo : w.heap.size + 2 ≤ B
  at_ : MAt wr B rv cv { ms0 fuel with wd := W, st := S }
  st : ∀ j, j ≤ k → S j = (baseN m.len j : Int)
  wd : ∀ j, j < k → ∀ i, i < m.len j → W (baseN m.len j + i) = m.wd j i
  res : wr.heap[w.heap.size + 1]? = some (.cells z 70 (0, 0))

theorem Nw.step {w wr : World} {rv cv : Value} {B : Nat} {m : Mem} {fuel : Int} {z : Array Value} {k : Nat} {W S : Nat → Int} (h : Nw w wr rv cv B m fuel z k W S) (hk : k < 6) (hle : baseN m.len (k + 1) ≤ 384) (n : Int) (hn : n = (baseN m.len (k + 1) : Int)) :
    ∃ W' S', Nw w (((wr.drew).setCells B (17 + baseN m.len k) (intsN (m.wd k) (m.len k))).setCell ⟨B, 404 + (k + 1), none⟩ (.int .i64 n)) rv cv B m fuel z (k + 1) W' S' := by
  subst hn
  obtain ⟨W', h1, h2, h3⟩ := MAt.fill (m.len k) (m.wd k) (baseN m.len k) _ wr.drew h.at_.drew (by simpa [baseN] using hle)
  have hlo := h.lo
  have g0 : wr.grownBy (((wr.drew).setCells B (17 + baseN m.len k) (intsN (m.wd k) (m.len k))).setCell ⟨B, 404 + (k + 1), none⟩ (.int .i64 (baseN m.len (k + 1) : Int))) (some B) :=
    gr_set (grown_trans (grown_drew wr _) (grown_setCells B _ _ _)) _ _
  refine ⟨W', setN S (k + 1) (baseN m.len (k + 1) : Int), h.more.grownBy g0 (fun b hb => by have := Option.some.inj hb; omega), h.lo, h1.setSt (k + 1) (by omega) _, fun j hj => ?_, fun j hj i hi => ?_, ?_⟩
  · unfold setN
    by_cases e : j = k + 1
    · rw [if_pos e, e]
    · rw [if_neg e]; exact h.st j (by omega)
  · by_cases e : j = k
    · subst e; exact h2 i hi
    · have hlt : baseN m.len j + i < baseN m.len k := by
        have := baseN_mono m.len (j + 1) k (by omega)
        simp only [baseN] at this
        omega
      rw [h3 _ hlt]
      exact h.wd j (by omega) i hi
  · have hsz : w.heap.size + 1 < wr.heap.size := by
      rcases Nat.lt_or_ge (w.heap.size + 1) wr.heap.size with h' | h'
      · exact h'
      · have := h.res
        rw [Array.getElem?_eq_none h'] at this
        cases this
    rw [g0.block (w.heap.size + 1) hsz (by simp; omega)]
    exact h.res
end Go.Proofs.Ytdlhlhbbhjbkpaa
