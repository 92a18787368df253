/-
  Words and regions that were handed in, as data; and how many there are, where what is handed in is bounded.
-/
import Derived.Test.YtifdalddchmlmaaOpen
import Derived.Test.YtifdalddchmlmaaWdPlain
import Derived.ChangeSlices
namespace Go.Proofs.Ytifdalddchmlmaa
open Go.ChangeShapes Go.WideShapes Go.ChangeAt Go.RowKit Go.Deep Go.Joins
set_option linter.unusedVariables false
set_option maxRecDepth 8000

theorem cellsW : Try.prog.cellsOf 40 = 1 := by kernel_rfl

theorem bulk_pos {H : Type} (d : DataW H) : 1 ≤ Rows.uptoBulk d := by
  cases d with
  | lit l => cases l <;> simp [Rows.uptoBulk]
  | nil => simp [Rows.uptoBulk]
  | ptr d => simp [Rows.uptoBulk]
  | slice x y => simp [Rows.uptoBulk]
  | agg x => simp [Rows.uptoBulk]
  | iface t d => simp [Rows.uptoBulk]
  | map x => simp [Rows.uptoBulk]
  | held x => simp [Rows.uptoBulk]
theorem bulk_len {H : Type} : ∀ l : List (DataW H), l.length ≤ Rows.uptoBulkAll l
  | [] => Nat.zero_le _
  | d :: l => by
    have h1 := bulk_pos d
    have h2 := bulk_len l
    simp only [Rows.uptoBulkAll, List.length_cons]
    omega

theorem open_words {H : Type} {enc : TypeId × Value → H} {W : World} {base : Nat} {held : Bool} {v : Value} {d : DataW H} {ps : List MemPlace} {r : Reach} {b0 : Nat}
    (hv : Value.okWide Try.prog W r b0 26 v) (h : DataW.Trod enc Try.prog W base (fun _ => true) held 26 v d ps) :
    ∃ (wa : Option Addr) (wb wo n cap : Nat) (f : Nat → Int), v = .slice wa n cap ∧ (0 < n → wa = some ⟨wb, wo, none⟩) ∧ WordsAt W wb wo n f ∧ (∀ i, i < n → W32 (f i)) ∧ n ≤ maxLen ∧ n ≤ Rows.uptoBulk d := by
  obtain ⟨a0, len, cap, rfl⟩ := okWide_slice Try.underlying26 hv
  obtain ⟨fuel, hf⟩ := h
  rcases open_ints Try.underlying26 Try.underlying40 cellsW hf with ⟨hcs, _⟩ | ⟨a, len', cap', zs, hcs, _, hl, hm, hlen, hd, hcell, hwf⟩
  · simp [Value.cells] at hcs
    obtain ⟨rfl, rfl, rfl⟩ := hcs
    exact ⟨none, 0, 0, 0, 0, fun _ => 0, rfl, fun h => absurd h (Nat.not_lt_zero _), fun i hi => absurd hi (Nat.not_lt_zero _), fun i hi => absurd hi (Nat.not_lt_zero _), Nat.zero_le _, Nat.zero_le _⟩
  · simp [Value.cells] at hcs
    obtain ⟨rfl, rfl, rfl⟩ := hcs
    simp only [if_true] at hlen
    refine ⟨some a, a.block, a.off, len, cap, fun i => zs.getD i 0, rfl, fun h0 => ?_, fun i hi => ?_, fun i hi => ?_, Nat.le_trans hl hm, ?_⟩
    · have h1 := hcell 0 (by omega)
      simp [Addr.add] at h1
      rw [← plain_addr h1]
    · have h1 := hcell 0 (by omega)
      simp [Addr.add] at h1
      have ha := plain_addr h1
      have h2 := hcell i (by omega)
      obtain ⟨b, o, sp⟩ := a
      simp at ha
      subst ha
      rw [add_plain] at h2
      exact h2
    · have hi' : i < zs.length := by omega
      have hz := hwf (zs.getD i 0) (by
        rw [List.getD_eq_getElem?_getD, List.getElem?_eq_getElem hi']
        exact List.getElem_mem hi')
      have := hz
      simp [Lit.wf] at this
      have m0 : IntKind.u32.min = 0 := by decide
      have m1 : IntKind.u32.max = 4294967295 := by decide
      rw [m0, m1] at this
      show 0 ≤ zs.getD i 0 ∧ zs.getD i 0 < 4294967296
      rw [List.getD_eq_getElem?_getD]
      omega
    · have e := congrArg Prod.fst hd
      dsimp only at e
      rw [e]
      simp only [Rows.uptoBulk]
      have h1 := bulk_len (H := H) (lits .u32 (zs.take len))
      have h2 : (lits (H := H) .u32 (zs.take len)).length = len := by simp [lits]; omega
      omega

theorem open_regions {H : Type} {enc : TypeId × Value → H} {W : World} {base : Nat} {held : Bool} {v : Value} {d : DataW H} {ps : List MemPlace} {r : Reach} {b0 : Nat}
    (hv : Value.okWide Try.prog W r b0 22 v) (h : DataW.Trod enc Try.prog W base (fun _ => true) held 22 v d ps) :
    ∃ (ra : Option Addr) (rb ro rl rc : Nat) (log : Nat → Int) (sec : Nat → Bool), v = .slice ra rl rc ∧ (0 < rl → ra = some ⟨rb, ro, none⟩) ∧ RegsAt W rb ro rl log sec ∧ rl ≤ maxLen ∧ ∀ i, i < rl → I64 (log i) := by
  obtain ⟨a0, len, cap, rfl⟩ := okWide_slice Try.underlying22 hv
  obtain ⟨fuel, hf⟩ := h
  obtain ⟨ra, rb, ro, rl, rc, log, sec, e0, hra, hr, hrc, hrm, hlog⟩ := open_regs hf
  simp [Value.cells] at e0
  obtain ⟨rfl, rfl, rfl⟩ := e0
  exact ⟨a0, rb, ro, len, cap, log, sec, rfl, hra, hr, Nat.le_trans hrc hrm, hlog⟩

end Go.Proofs.Ytifdalddchmlmaa
