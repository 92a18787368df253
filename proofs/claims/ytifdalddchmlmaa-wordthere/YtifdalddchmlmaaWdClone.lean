/-
  What slices.Clone comes to, of regions.
-/
import Derived.Test.YtifdalddchmlmaaBase
import Derived.Test.YtifdalddchmlmaaProg
import Derived.Lib.SliceRun
namespace Go.Proofs.Ytifdalddchmlmaa
open Go.RowKit
set_option linter.unusedVariables false
set_option linter.unusedSimpArgs false
set_option maxRecDepth 8000

theorem info45r : (Try.prog.info? 45).map (fun i => (i.zero, i.size, i.bytes)) = some (some (.agg #[.int .i64 0, .bool false]), 2, 16) := by kernel_rfl

/-- Regions, cell by cell. -/
def flatR (log : Nat → Int) (sec : Nat → Bool) (n : Nat) : List Value := (List.range (n * 2)).map fun j => if j % 2 = 0 then .int .i64 (log (j / 2)) else .bool (sec (j / 2))
theorem flatR_length (log : Nat → Int) (sec : Nat → Bool) (n : Nat) : (flatR log sec n).length = n * 2 := by simp [flatR]
theorem flatR_get (log : Nat → Int) (sec : Nat → Bool) (n j : Nat) (h : j < n * 2) : (flatR log sec n)[j]? = some (if j % 2 = 0 then .int .i64 (log (j / 2)) else .bool (sec (j / 2))) := by simp [flatR, h]
theorem flatR_one (log : Nat → Int) (sec : Nat → Bool) (n : Nat) : ∀ u ∈ flatR log sec n, u.oneCell' = true := by
  intro u hu
  simp only [flatR, List.mem_map] at hu
  obtain ⟨j, _, rfl⟩ := hu
  split <;> rfl

set_option maxHeartbeats 1000000 in
theorem clone_calls (a : Option Addr) (n c b o : Nat) (log : Nat → Int) (sec : Nat → Bool) (w : World) (ha : 0 < n → a = some ⟨b, o, none⟩) (hr : RegsAt w b o n log sec) (hn : n ≤ 6) :
    Calls Try.prog 17 #[.slice a n c] w fun e w' => ∃ (a' : Option Addr) (g c' : Nat), e = .returned (.slice a' n c') ∧ (0 < n → a' = some ⟨g, 0, none⟩) ∧ w.heap.size ≤ g ∧ RegsAt w' g 0 n log sec ∧ More w w' := by
  have qn : ∀ (w : World) (a : Option Addr) (n c n' c' : Nat), (binOp .eql 22 (.slice a n c) (.slice none n' c')).run Try.prog w = .ok (.bool a.isNone) w := fun w a n c n' c' => Lib.run_eql_slice_nil w _ _ a n c n' c' Try.underlying22
  cases a with
  | none =>
    obtain rfl : n = 0 := by
      rcases Nat.eq_zero_or_pos n with q | q
      · exact q
      · exact absurd (ha q) (by simp)
    clear ha hr hn
    go_enter Try.func17, Try.ntmps17
    go_wp2
    go_ret
    exact ⟨none, w.heap.size, 0, rfl, fun h => absurd h (Nat.lt_irrefl _), Nat.le_refl _, fun i hi => absurd hi (Nat.not_lt_zero _), More.refl _⟩
  | some ad =>
    obtain ⟨i0, hi, hz0, hz1, hz2⟩ := info_parts info45r
    have Hi : Hid (Try.prog.info? 45 = some i0 ∧ i0.zero = some (.agg #[.int .i64 0, .bool false]) ∧ i0.size = 2 ∧ i0.bytes = 16) := ⟨hi, hz0, hz1, hz2⟩
    have Hn : Hid (n ≤ 6) := hn
    have Hown1 : Hid ((w.alloc (.cells #[] 45)).ownsRow w.heap.size 45 2 (.slice (some ⟨w.heap.size, 0, none⟩) 0 0) 0 []) := World.ownsRow_made _ #[] 0 (Nat.le_refl _) (by unfold maxLen; omega) rfl
    have Hnews : Hid (0 < n → ∃ ad', some ad = some ad' ∧ ∀ j u, (flatR log sec n)[j]? = some u → (w.alloc (.cells #[] 45)).cell? (ad'.add j) = some u) := fun h0 => by
      refine ⟨_, ha h0, fun j u hu => ?_⟩
      have hj : j < n * 2 := by have := (List.getElem?_eq_some_iff.1 hu).1; rw [flatR_length] at this; exact this
      rw [Go.WideShapes.add_plain]
      have hk := hr (j / 2) (by omega)
      rw [flatR_get log sec n j hj] at hu
      rw [← Option.some.inj hu]
      by_cases e : j % 2 = 0
      · have e2 : j / 2 * 2 = j := by omega
        rw [e2] at hk
        rw [if_pos e]; exact ((More.refl _).alloc _ _).cell hk.1
      · have e3 : o + j / 2 * 2 + 1 = o + j := by omega
        rw [e3] at hk
        rw [if_neg e]; exact ((More.refl _).alloc _ _).cell hk.2
    clear hi hz0 hz1 hz2 hn ha hr
    go_enter Try.func17, Try.ntmps17
    go_wp2_with (at_builtin; refine wpList_append_any _ rfl (.tmp 5) (.tmp 6) 22 rfl w.heap.size 45 i0 (.agg #[.int .i64 0, .bool false]) 2 16 Try.underlying22 Hi.out.1 Hi.out.2.1 Hi.out.2.2.1 Hi.out.2.2.2 rfl (by decide) (.slice (some ⟨w.heap.size, 0, none⟩) 0 0) 0 [] rfl Hown1.out (some ad) n c (flatR log sec n) rfl (by rw [flatR_length]) Hnews.out (flatR_one _ _ n) (by have := Hn.out; unfold maxLen; omega) (by have := Hn.out; omega) (by simp) ?_; intro va cap w2 own2 gr2 hat2 hnn2)
    go_ret
    simp only [Nat.zero_add, List.nil_append] at own2 ⊢
    have hm : More w w2 := ((More.refl _).alloc _ _).grownBy gr2 (fun k hk => by
      have : w.heap.size = k := by simpa [Value.ownBlock] using hk
      omega)
    by_cases h0 : 0 < n
    · obtain ⟨g, cap', hv, hlo, _⟩ := own2.form h0
      cases hv
      refine ⟨_, g, cap, rfl, fun _ => rfl, hlo, fun i hi => ?_, hm⟩
      simp only [Nat.zero_add]
      refine ⟨?_, ?_⟩
      · rw [World.ownsRow.cellAt own2 (i * 2) (by omega), flatR_get log sec n (i * 2) (by omega), if_pos (by omega)]
        simp
      · rw [World.ownsRow.cellAt own2 (i * 2 + 1) (by omega), flatR_get log sec n (i * 2 + 1) (by omega), if_neg (by omega)]
        have : (i * 2 + 1) / 2 = i := by omega
        rw [this]
    · exact ⟨va, w.heap.size, cap, rfl, fun h => absurd h h0, Nat.le_refl _, fun i hi => absurd hi (by omega), hm⟩

end Go.Proofs.Ytifdalddchmlmaa
