/-
  The texts SBack, SReach, STake, SPut, SBranch, SStep, one behind the other.
-/
import Derived.Test.YtbfhchhggkpbdaaJoined3
import Derived.Test.YtbfhchhggkpbdaaJoined0
import Derived.Test.YtbfhchhggkpbdaaJoined1
import Derived.Deep.RegionWith

/-
  What the runner's goAhead, comeBack and takeBack come to: the place to come back to is laid whole, and taken back whole.
-/
namespace Go.Proofs.Ytbfhchhggkpbdaa
open Go.RowKit
set_option linter.unusedVariables false
set_option linter.unusedSimpArgs false
set_option maxRecDepth 8000

theorem hid_of' {P : Prop} (h : P) : Hid P := h

theorem spec_goAhead_already (w : World) (M : Nat) (rv cv : Value) (x : Ms) (q : Tl) (se : List Se) (h : RunS w M rv cv x q se) (ha : q.ahead = true) :
    Calls Try.prog 95 #[.pointer (some ⟨M, 0, none⟩)] w fun e w' => e = .returned (.tuple #[]) ∧ w' = w := by
  have c0 := h.ahead.1
  rw [ha] at c0
  clear h ha
  go_enter Try.func95, Try.ntmps95
  go_wp2
  refine bodyPost_ret (results_none (by kernel_rfl) _ _ _) rfl ?_
  exact ⟨rfl, rfl⟩

theorem list_toArray_eq {C : Array Value} {l : List Value} (hs : C.size = l.length) (h : ∀ j, j < l.length → C[j]? = l[j]?) : C = l.toArray := by
  apply Array.ext_getElem?
  intro j
  by_cases e : j < l.length
  · rw [h j e]; simp
  · rw [Array.getElem?_eq_none (by omega)]
    simp
    omega
theorem built94' (r wd : Nat → Int) (n : Int) (f : Nat → Int) : Try.prog.built 94 [(0, .agg (stL r wd n).toArray), (1, .agg (puL f).toArray)] = some (stL r wd n ++ puL f).toArray := by
  obtain ⟨C, h1, h2, h3⟩ := built94 (stL r wd n).toArray (puL f).toArray (by simp [stL_length]) (by simp [puL_length])
  rw [h1, list_toArray_eq (C := C) (l := stL r wd n ++ puL f) (by rw [h2, List.length_append, stL_length, puL_length]) (fun j hj => ?_)]
  rw [List.length_append, stL_length, puL_length] at hj
  rw [h3 j hj, List.getElem?_append, stL_length]
  simp

set_option maxHeartbeats 400000 in
theorem spec_goAhead (w : World) (M : Nat) (rv cv : Value) (x : Ms) (q : Tl) (se : List Se) (h : RunS w M rv cv x q se) (ha : q.ahead = false) (s0 : 0 ≤ x.steps) (s1 : x.steps ≤ 100000) :
    Calls Try.prog 95 #[.pointer (some ⟨M, 0, none⟩)] w fun e w' => e = .returned (.tuple #[]) ∧ RunS w' M rv cv x { q with ahead := true, br := x.r, bw := x.wd, bn := x.next, bp := q.puts, til := x.steps + 12 } se ∧ Below M w w' := by
  obtain ⟨c0, f0⟩ := h.ahead
  rw [ha] at c0
  have h1 := h.setAhead true
  have hw : wrap64 (x.steps + 12) = x.steps + 12 := by unfold wrap64; omega
  have hwr := wrapEq
  obtain ⟨A, hA⟩ : ∃ A, A = stL x.r x.wd x.next := ⟨_, rfl⟩
  obtain ⟨B, hB⟩ : ∃ B, B = puL q.puts := ⟨_, rfl⟩
  have hAc := h1.stateC
  have hBc := h1.putsC
  dsimp only at hBc
  rw [← hA] at hAc
  rw [← hB] at hBc
  have hbu := built94' x.r x.wd x.next q.puts
  rw [← hA, ← hB] at hbu
  have hAl : A.length = 395 := by rw [hA, stL_length]
  have hBl : B.length = 384 := by rw [hB, puL_length]
  have hone : ∀ v ∈ A ++ B, v.oneCell' = true := by
    intro v hv
    rw [hA, hB] at hv
    rcases List.mem_append.1 hv with h2 | h2
    · exact stL_one _ _ _ v h2
    · exact puL_one _ v h2
  have h2 := (h1.drew).setBack x.r x.wd x.next q.puts
  rw [← hA, ← hB] at h2
  obtain ⟨w1, hw1⟩ : ∃ w1, w1 = w.setCell ⟨M, 797, none⟩ (.bool true) := ⟨_, rfl⟩
  rw [← hw1] at h1 h2 hAc hBc
  obtain ⟨w2, hw2⟩ : ∃ w2, w2 = w1.drew.setCells M 798 (A ++ B) := ⟨_, rfl⟩
  rw [← hw2] at h2
  have c4 := h2.run.steps.1
  dsimp only at c4
  obtain ⟨ct, ft⟩ := h2.til
  dsimp only at ct
  obtain ⟨ti, hti⟩ : ∃ ti, q.til = ti := ⟨_, rfl⟩
  obtain ⟨st, hst⟩ : ∃ st, x.steps = st := ⟨_, rfl⟩
  rw [hti] at ct
  rw [hst] at c4 hw
  have Hst : Hid (x.steps = st) := hst
  have H : Hid (RunS w M rv cv x q se ∧ (∀ j v, A[j]? = some v → w1.cell? ⟨M, 7 + j, none⟩ = some v) ∧ (∀ j v, B[j]? = some v → w1.cell? ⟨M, 413 + j, none⟩ = some v) ∧ A.length = 395 ∧ B.length = 384 ∧ (∀ v ∈ A ++ B, v.oneCell' = true) ∧ RunS w1 M rv cv x { q with ahead := true } se) := ⟨h, hAc, hBc, hAl, hBl, hone, h1⟩
  have H2 := hid_of' h2
  have HW1 : Hid (w1 = w.setCell ⟨M, 797, none⟩ (.bool true)) := hw1
  have HW2 : Hid (w2 = w1.drew.setCells M 798 (A ++ B)) := hw2
  have HB : Hid (Try.prog.built 94 [(0, .agg A.toArray), (1, .agg B.toArray)] = some (A ++ B).toArray) := hbu
  obtain ⟨S, HS⟩ : ∃ S : World → Prop, Hid (∀ w', S w' ↔ ((∀ j v, A[j]? = some v → w'.cell? ⟨M, 7 + j, none⟩ = some v) ∧ (∀ j v, B[j]? = some v → w'.cell? ⟨M, 413 + j, none⟩ = some v))) := ⟨_, fun _ => Iff.rfl⟩
  clear h h1 h2 hAc hBc hbu hA hB hone hw1 hw2 ha hti hst hAl hBl s0 s1
  obtain ⟨P, hP⟩ : ∃ P, P = fun (e : Ending) (w' : World) => e = .returned (.tuple #[]) ∧ RunS w' M rv cv x { q with ahead := true, br := x.r, bw := x.wd, bn := x.next, bp := q.puts, til := x.steps + 12 } se ∧ Below M w w' := ⟨_, rfl⟩
  rw [← hP]
  have HP : Hid (P = fun (e : Ending) (w' : World) => e = .returned (.tuple #[]) ∧ RunS w' M rv cv x { q with ahead := true, br := x.r, bw := x.wd, bn := x.next, bp := q.puts, til := x.steps + 12 } se ∧ Below M w w') := hP
  clear hP
  go_enter Try.func95, Try.ntmps95
  go_wp2_with (fail)
  rw [← HW1.out]
  refine wp_region_ord (S := S) [(0, true), (1, true), (2, true), (3, true), (4, true), (5, true), (6, true), (7, true), (8, true), (9, true), (10, true), (11, true), (12, true), (13, false)] (by kernel_rfl) (by kernel_rfl) (by kernel_rfl) ((HS.out _).2 ⟨H.out.2.1, H.out.2.2.1⟩) ?_
  have hne : Nonempty { w' // S w' } := ⟨⟨w1, (HS.out _).2 ⟨H.out.2.1, H.out.2.2.1⟩⟩⟩
  iterate 5 (refine wpOrd_take rfl (by kernel_rfl) (fun K hK => ?_); go_simp; refine hK _ _ ?_; clear hK K)
  refine wpOrd_take rfl (by kernel_rfl) (fun K hK => ⟨.agg A.toArray, fun i => exec_load_part 74 (.tmp 13) rfl M 7 rfl A _ ((HS.out _).1 i.property).1 Try.underlying74 rfl (by rw [H.out.2.2.2.1]; exact info74), ?_⟩); refine hK _ _ ?_; clear hK K
  go_simp
  iterate 3 (refine wpOrd_take rfl (by kernel_rfl) (fun K hK => ?_); go_simp; refine hK _ _ ?_; clear hK K)
  refine wpOrd_take rfl (by kernel_rfl) (fun K hK => ⟨.agg B.toArray, fun i => exec_load_part 92 (.tmp 17) rfl M 413 rfl B _ ((HS.out _).1 i.property).2 Try.underlying92 rfl (by rw [H.out.2.2.2.2.1]; exact info92), ?_⟩); refine hK _ _ ?_; clear hK K
  go_simp
  refine wpOrd_take rfl (by kernel_rfl) (fun K hK => ⟨.agg (A ++ B).toArray, fun i => exec_build 94 #[(0, .tmp 14), (1, .tmp 18)] rfl _ (by simp [Act.eval]; exact HB.out), ?_⟩); refine hK _ _ ?_; clear hK K
  go_simp
  iterate 2 (refine wpOrd_take rfl (by kernel_rfl) (fun K hK => ?_); go_simp; refine hK _ _ ?_; clear hK K)
  refine wpOrd_busy rfl (by kernel_rfl) (fun K hK => ?_)
  refine wp_store_part 94 (.tmp 21) (.tmp 19) rfl M 798 (A ++ B).toArray rfl rfl (by rw [show (A ++ B).toArray.size = 779 by simp [H.out.2.2.2.1, H.out.2.2.2.2.1]]; exact info94) (fun j hj => H.out.2.2.2.2.2.2.drew.any (798 + j) (by simp [H.out.2.2.2.1, H.out.2.2.2.2.1] at hj; omega)) (by simpa using H.out.2.2.2.2.2.1) ?_
  have e2 : (A ++ B).toArray.toList = A ++ B := by simp
  rw [e2, ← HW2.out]
  clear e2
  refine hK _ _ ((HS.out _).2 ⟨fun j v hv => ?_, fun j v hv => ?_⟩) ?_
  · rw [HW2.out, World.cell?_setCells_out _ _ _ _ _ (fun _ _ => .inl (by have := (List.getElem?_eq_some_iff.1 hv).1; have := H.out.2.2.2.1; dsimp only; omega))]
    exact H.out.2.1 j v hv
  · rw [HW2.out, World.cell?_setCells_out _ _ _ _ _ (fun _ _ => .inl (by have := (List.getElem?_eq_some_iff.1 hv).1; have := H.out.2.2.2.2.1; dsimp only; omega))]
    exact H.out.2.2.1 j v hv
  clear hK K
  refine wpOrd_done ?_
  clear hne
  go_simp
  go_wp2
  go_end0
  rw [HP.out, Hst.out]
  refine ⟨rfl, H2.out.setTil _, ?_⟩
  rw [HW2.out, HW1.out]
  exact below_put (Below.grown (below_drew (below_put (Below.refl _ _) _ _)) (grown_setCells M _ _ _) (by have := H.out.1.lt; simp; omega) (fun b hb => by have := Option.some.inj hb; omega)) _ _

set_option maxHeartbeats 400000 in
theorem spec_comeBack (w : World) (M : Nat) (rv cv : Value) (x : Ms) (q : Tl) (se : List Se) (h : RunS w M rv cv x q se) :
    Calls Try.prog 85 #[.pointer (some ⟨M, 0, none⟩)] w fun e w' => e = .returned (.tuple #[]) ∧ RunS w' M rv cv { x with r := q.br, wd := q.bw, next := q.bn } { q with puts := q.bp, ahead := false } se ∧ Below M w w' := by
  obtain ⟨A, hA⟩ : ∃ A, A = stL q.br q.bw q.bn := ⟨_, rfl⟩
  obtain ⟨B, hB⟩ : ∃ B, B = puL q.bp := ⟨_, rfl⟩
  have hAc := h.backS
  have hBc := h.backP
  rw [← hA] at hAc
  rw [← hB] at hBc
  have hAl : A.length = 395 := by rw [hA, stL_length]
  have hBl : B.length = 384 := by rw [hB, puL_length]
  have hone : (∀ v ∈ A, v.oneCell' = true) ∧ (∀ v ∈ B, v.oneCell' = true) := by rw [hA, hB]; exact ⟨stL_one _ _ _, puL_one _⟩
  have h1 := h.drew.setState q.br q.bw q.bn
  have h2 := h1.setPuts q.bp
  rw [← hA] at h1 h2
  rw [← hB] at h2
  obtain ⟨w1, hw1⟩ : ∃ w1, w1 = w.drew.setCells M 7 A := ⟨_, rfl⟩
  rw [← hw1] at h1 h2
  obtain ⟨w2, hw2⟩ : ∃ w2, w2 = w1.setCells M 413 B := ⟨_, rfl⟩
  rw [← hw2] at h2
  obtain ⟨c0, f0⟩ := h2.ahead
  dsimp only at c0
  obtain ⟨b, hb⟩ : ∃ b, q.ahead = b := ⟨_, rfl⟩
  rw [hb] at c0
  have H : Hid (RunS w M rv cv x q se ∧ (∀ j v, A[j]? = some v → w.cell? ⟨M, 798 + j, none⟩ = some v) ∧ (∀ j v, B[j]? = some v → w.cell? ⟨M, 1193 + j, none⟩ = some v) ∧ A.length = 395 ∧ B.length = 384 ∧ ((∀ v ∈ A, v.oneCell' = true) ∧ (∀ v ∈ B, v.oneCell' = true)) ∧ RunS w1 M rv cv { x with r := q.br, wd := q.bw, next := q.bn } q se) := ⟨h, hAc, hBc, hAl, hBl, hone, h1⟩
  have H2 := hid_of' h2
  have HW1 : Hid (w1 = w.drew.setCells M 7 A) := hw1
  have HW2 : Hid (w2 = w1.setCells M 413 B) := hw2
  obtain ⟨S, HS⟩ : ∃ S : World → Prop, Hid (∀ w', S w' ↔ ((∀ j v, A[j]? = some v → w'.cell? ⟨M, 798 + j, none⟩ = some v) ∧ (∀ j v, B[j]? = some v → w'.cell? ⟨M, 1193 + j, none⟩ = some v))) := ⟨_, fun _ => Iff.rfl⟩
  have hS0 : S w.drew := (HS.out _).2 ⟨hAc, hBc⟩
  have hS1 : S w1 := by
    refine (HS.out _).2 ⟨fun j v hv => ?_, fun j v hv => ?_⟩
    · rw [hw1, World.cell?_setCells_out _ _ _ _ _ (fun _ _ => .inr (by dsimp only; omega))]
      exact hAc j v hv
    · rw [hw1, World.cell?_setCells_out _ _ _ _ _ (fun _ _ => .inr (by dsimp only; omega))]
      exact hBc j v hv
  have hS2 : S w2 := by
    refine (HS.out _).2 ⟨fun j v hv => ?_, fun j v hv => ?_⟩
    · rw [hw2, World.cell?_setCells_out _ _ _ _ _ (fun _ _ => .inr (by dsimp only; omega))]
      exact ((HS.out _).1 hS1).1 j v hv
    · rw [hw2, World.cell?_setCells_out _ _ _ _ _ (fun _ _ => .inr (by dsimp only; omega))]
      exact ((HS.out _).1 hS1).2 j v hv
  have HSS : Hid (S w.drew ∧ S w1 ∧ S w2) := ⟨hS0, hS1, hS2⟩
  clear h h1 h2 hAc hBc hA hB hone hw1 hw2 hb hAl hBl hS0 hS1 hS2
  obtain ⟨P, hP⟩ : ∃ P, P = fun (e : Ending) (w' : World) => e = .returned (.tuple #[]) ∧ RunS w' M rv cv { x with r := q.br, wd := q.bw, next := q.bn } { q with puts := q.bp, ahead := false } se ∧ Below M w w' := ⟨_, rfl⟩
  rw [← hP]
  have HP : Hid (P = fun (e : Ending) (w' : World) => e = .returned (.tuple #[]) ∧ RunS w' M rv cv { x with r := q.br, wd := q.bw, next := q.bn } { q with puts := q.bp, ahead := false } se ∧ Below M w w') := hP
  clear hP
  go_enter Try.func85, Try.ntmps85
  go_wp2_with (fail)
  refine wp_region_ord (S := S) [(0, true), (1, true), (2, true), (3, true), (4, true), (5, true), (6, true), (7, true), (8, true), (9, true), (10, true), (11, true), (12, true), (13, true), (14, true), (15, false), (16, true), (17, true), (18, false)] (by kernel_rfl) (by kernel_rfl) (by kernel_rfl) HSS.out.1 ?_
  have hne : Nonempty { w' // S w' } := ⟨⟨w1, HSS.out.2.1⟩⟩
  iterate 6 (refine wpOrd_take rfl (by kernel_rfl) (fun K hK => ?_); go_simp; refine hK _ _ ?_; clear hK K)
  refine wpOrd_take rfl (by kernel_rfl) (fun K hK => ⟨.agg A.toArray, fun i => exec_load_part 74 (.tmp 7) rfl M 798 rfl A _ ((HS.out _).1 i.property).1 Try.underlying74 rfl (by rw [H.out.2.2.2.1]; exact info74), ?_⟩); refine hK _ _ ?_; clear hK K
  go_simp
  iterate 4 (refine wpOrd_take rfl (by kernel_rfl) (fun K hK => ?_); go_simp; refine hK _ _ ?_; clear hK K)
  refine wpOrd_take rfl (by kernel_rfl) (fun K hK => ⟨.agg B.toArray, fun i => exec_load_part 92 (.tmp 12) rfl M 1193 rfl B _ ((HS.out _).1 i.property).2 Try.underlying92 rfl (by rw [H.out.2.2.2.2.1]; exact info92), ?_⟩); refine hK _ _ ?_; clear hK K
  go_simp
  iterate 3 (refine wpOrd_take rfl (by kernel_rfl) (fun K hK => ?_); go_simp; refine hK _ _ ?_; clear hK K)
  refine wpOrd_busy rfl (by kernel_rfl) (fun K hK => ?_)
  refine wp_store_part 74 (.tmp 16) (.tmp 8) rfl M 7 A.toArray rfl rfl (by rw [show A.toArray.size = 395 by simp [H.out.2.2.2.1]]; exact info74) (fun j hj => H.out.1.drew.any (7 + j) (by simp [H.out.2.2.2.1] at hj; omega)) (by simpa using H.out.2.2.2.2.2.1.1) ?_
  have e2 : A.toArray.toList = A := by simp
  rw [e2, ← HW1.out]
  clear e2
  refine hK _ _ HSS.out.2.1 ?_
  clear hK K
  go_simp
  iterate 2 (refine wpOrd_take rfl (by kernel_rfl) (fun K hK => ?_); go_simp; refine hK _ _ ?_; clear hK K)
  refine wpOrd_busy rfl (by kernel_rfl) (fun K hK => ?_)
  refine wp_store_part 92 (.tmp 18) (.tmp 13) rfl M 413 B.toArray rfl rfl (by rw [show B.toArray.size = 384 by simp [H.out.2.2.2.2.1]]; exact info92) (fun j hj => H.out.2.2.2.2.2.2.any (413 + j) (by simp [H.out.2.2.2.2.1] at hj; omega)) (by simpa using H.out.2.2.2.2.2.1.2) ?_
  have e2 : B.toArray.toList = B := by simp
  rw [e2, ← HW2.out]
  clear e2
  refine hK _ _ HSS.out.2.2 ?_
  clear hK K
  refine wpOrd_done ?_
  clear hne
  go_simp
  go_wp2
  go_end0
  rw [HP.out]
  refine ⟨rfl, H2.out.setAhead _, ?_⟩
  rw [HW2.out, HW1.out]
  have hM := H.out.1.lt
  exact below_put (Below.grown (Below.grown (below_drew (Below.refl _ _)) (grown_setCells M _ _ _) (by simp; omega) (fun b hb => by have := Option.some.inj hb; omega)) (grown_setCells M _ _ _) (by have := (grown_setCells M A 7 w.drew).size; simp at this; omega) (fun b hb => by have := Option.some.inj hb; omega)) _ _

theorem spec_takeBack (w : World) (M : Nat) (rv cv : Value) (x : Ms) (q : Tl) (se : List Se) (hl : se.length ≤ 200000) (h : RunS w M rv cv x q se) :
    Calls Try.prog 79 #[.pointer (some ⟨M, 0, none⟩)] w fun e w' => e = .returned (.tuple #[]) ∧ RunS w' M rv cv { x with r := q.br, wd := q.bw, next := q.bn } { q with puts := q.bp, ahead := false } (se ++ [⟨4, 0, 0⟩]) ∧ Below M w w' := by
  have H : Hid (RunS w M rv cv x q se ∧ se.length ≤ 200000) := ⟨h, hl⟩
  clear h hl
  go_enter Try.func79, Try.ntmps79
  go_wp2_with (fail)
  refine (seq_show _ M rv cv _ se 4 0 0 H.out.2 H.out.1.run).mono ?_
  rintro e w2 ⟨rfl, r2, b2, _⟩
  have H2 : Hid (RunS w2 M rv cv x q (se ++ [⟨4, 0, 0⟩]) ∧ Below M w w2) := ⟨⟨r2⟩, b2⟩
  clear r2 b2
  go_wp2_with (fail)
  refine (spec_comeBack w2 M rv cv x q _ H2.out.1).mono ?_
  rintro e w3 ⟨rfl, r3, b3⟩
  have H3 := hid_of' (And.intro r3 (Below.trans H2.out.2 b3))
  clear r3 b3
  go_wp2
  go_end0
  exact ⟨rfl, H3.out.1, H3.out.2⟩
end Go.Proofs.Ytbfhchhggkpbdaa

/-
  What the runner's reach comes to, and endsAhead and halt.
-/
namespace Go.Proofs.Ytbfhchhggkpbdaa
open Go.RowKit
set_option linter.unusedVariables false
set_option linter.unusedSimpArgs false
set_option maxRecDepth 8000

/-- The number that an instruction means, be the word there or not. -/
def numI (x : Ms) (i : Ins) : Int := wrap64 (idxI x.r i + x.st i.c.toNat)

theorem seq_number_all (i : Ins) (w : World) (M : Nat) (rv cv : Value) (x : Ms) (se : List Se) (h : Run w M rv cv x se) (hop : i.op = 3 ∨ i.op = 4 ∨ i.op = 5 ∨ i.op = 6) (b0 : 0 ≤ i.b) (b1 : i.b < 10) (c0 : 0 ≤ i.c) (c1 : i.c < 6)
    (s0 : 0 ≤ x.st i.c.toNat) (s1 : x.st i.c.toNat ≤ x.st (i.c.toNat + 1)) (s2 : x.st (i.c.toNat + 1) ≤ 384) :
    Calls Try.prog 92 #[.pointer (some ⟨M, 0, none⟩), .agg #[.int .i64 i.op, .int .i64 i.a, .int .i64 i.b, .int .i64 i.c, .int .i64 i.n]] w fun e w' =>
      e = .returned (.tuple #[.int .i64 (numI x i), .bool (decide (0 ≤ idxI x.r i ∧ idxI x.r i < x.st (i.c.toNat + 1) - x.st i.c.toNat))]) ∧ More w w' := by
  have ws : wrap64 (x.st (i.c.toNat + 1) - x.st i.c.toNat) = x.st (i.c.toNat + 1) - x.st i.c.toNat := by unfold wrap64; omega
  have hs := (h.st i.c.toNat (by omega)).1
  have ht := (h.st (i.c.toNat + 1) (by omega)).1
  rw [show i.c.toNat + 1 = (i.c + 1).toNat by omega] at ht
  have fin : ∀ (e : Ending) (w' : World), (e = .returned (.tuple #[.int .i64 (wrap64 (idxI x.r i + x.st i.c.toNat)), .bool (decide (0 ≤ idxI x.r i) && decide (idxI x.r i < wrap64 (x.st (i.c.toNat + 1) - x.st i.c.toNat)))]) ∧ More w w') →
      e = .returned (.tuple #[.int .i64 (numI x i), .bool (decide (0 ≤ idxI x.r i ∧ idxI x.r i < x.st (i.c.toNat + 1) - x.st i.c.toNat))]) ∧ More w w' := by
    rintro e w' ⟨rfl, m⟩
    rw [ws]
    exact ⟨by rw [Bool.decide_and]; rfl, m⟩
  by_cases h34 : i.op = 3 ∨ i.op = 4
  · have hx := (h.r i.b.toNat (by omega)).1
    have e : idxI x.r i = wrap64 (i.n + x.r i.b.toNat) := by unfold idxI; rw [if_neg (by omega), Int.add_comm]
    rw [show (i.c.toNat + 1) = (i.c + 1).toNat by omega] at fin ⊢
    exact (seq_number_r i.op i.a i.b i.c i.n _ _ _ _ w M h34 b0 b1 c0 c1 e.symm hs ht hx h.lt).mono fin
  · have e : idxI x.r i = i.n := by unfold idxI; rw [if_pos (by omega)]
    rw [show (i.c.toNat + 1) = (i.c + 1).toNat by omega] at fin ⊢
    rw [e] at fin ⊢
    exact (seq_number_k i.op i.a i.b i.c i.n _ _ w M (by omega) c0 c1 hs ht h.lt).mono fin

/-- The word is there, or the run is ahead of time. -/
theorem spec_reach_ok (op a b c n k how : Int) (t : Bool) (w : World) (M : Nat) (rv cv : Value) (x : Ms) (q : Tl) (se : List Se) (h : RunS w M rv cv x q se) (hl : se.length ≤ 200000) (hok : t = true ∨ q.ahead = true)
    (hN : ∀ w1, More w w1 → Calls Try.prog 92 #[.pointer (some ⟨M, 0, none⟩), .agg #[.int .i64 op, .int .i64 a, .int .i64 b, .int .i64 c, .int .i64 n]] w1 fun e w' => e = .returned (.tuple #[.int .i64 k, .bool t]) ∧ More w1 w') :
    Calls Try.prog 96 #[.pointer (some ⟨M, 0, none⟩), .agg #[.int .i64 op, .int .i64 a, .int .i64 b, .int .i64 c, .int .i64 n], .int .i64 how] w fun e w' =>
      e = .returned (.tuple #[.int .i64 k, .bool true]) ∧ RunS w' M rv cv x q (se ++ [⟨2, k, how⟩]) ∧ Below M w w' := by
  have HN := hid_of' hN
  have H : Hid (RunS w M rv cv x q se ∧ se.length ≤ 200000) := ⟨h, hl⟩
  obtain ⟨S, HS⟩ : ∃ S : World → Prop, Hid (∀ w', S w' ↔ More (w.alloc (.cells #[.int .i64 op, .int .i64 a, .int .i64 b, .int .i64 c, .int .i64 n] 34)) w') := ⟨_, fun _ => Iff.rfl⟩
  have k0 : ∀ i : { w' // S w' }, i.val.cell? ⟨w.heap.size, 0, none⟩ = some (.int .i64 op) := fun i => ((HS.out _).1 i.property).cell (by go_simp)
  have k1 : ∀ i : { w' // S w' }, i.val.cell? ⟨w.heap.size, 1, none⟩ = some (.int .i64 a) := fun i => ((HS.out _).1 i.property).cell (by go_simp)
  have k2 : ∀ i : { w' // S w' }, i.val.cell? ⟨w.heap.size, 2, none⟩ = some (.int .i64 b) := fun i => ((HS.out _).1 i.property).cell (by go_simp)
  have k3 : ∀ i : { w' // S w' }, i.val.cell? ⟨w.heap.size, 3, none⟩ = some (.int .i64 c) := fun i => ((HS.out _).1 i.property).cell (by go_simp)
  have k4 : ∀ i : { w' // S w' }, i.val.cell? ⟨w.heap.size, 4, none⟩ = some (.int .i64 n) := fun i => ((HS.out _).1 i.property).cell (by go_simp)
  have hne : Nonempty { w' // S w' } := ⟨⟨_, (HS.out _).2 (More.refl _)⟩⟩
  have ca := h.ahead.1
  have Hok : Hid (t = true ∨ q.ahead = true) := hok
  clear h hl hN hok
  go_enter Try.func96, Try.ntmps96
  go_wp2_with (fail)
  refine wp_region_ord (S := S) [(0, true), (1, true), (2, true), (3, true), (4, false), (5, true), (6, true), (7, true), (8, true), (9, true)] (by kernel_rfl) (by kernel_rfl) (by kernel_rfl) ((HS.out _).2 (More.refl _).drew) ?_
  iterate 4 (refine wpOrd_take rfl (by kernel_rfl) (fun K hK => ?_); go_simp; refine hK _ _ ?_; clear hK K)
  refine wpOrd_busy rfl (by kernel_rfl) (fun K hK => ?_); go_simp
  refine (HN.out _ ((More.refl _).alloc _ _).drew).mono ?_
  rintro e w5 ⟨rfl, m5⟩
  have Hm5 : Hid (More (w.alloc (.cells #[.int .i64 op, .int .i64 a, .int .i64 b, .int .i64 c, .int .i64 n] 34)) w5) := (More.refl _).drew.trans m5
  have Hm : Hid (More w w5) := ((More.refl _).alloc _ _).trans Hm5.out
  have ca5 := Hm.out.cell ca
  clear m5
  go_simp
  refine hK _ _ ((HS.out _).2 Hm5.out) ?_; clear hK K
  iterate 5 (refine wpOrd_take rfl (by kernel_rfl) (fun K hK => ?_); go_simp; refine hK _ _ ?_; clear hK K)
  refine wpOrd_done ?_
  clear k0 k1 k2 k3 k4 hne ca
  cases t with
  | true =>
    go_wp2_with (fail)
    refine (seq_show _ M rv cv _ se 2 k how H.out.2 (H.out.1.more Hm.out).run).mono ?_
    rintro e w2 ⟨rfl, r2, b2, _⟩
    have H2 : Hid (RunS w2 M rv cv x q (se ++ [⟨2, k, how⟩]) ∧ Below M w w2) := ⟨⟨r2⟩, Below.trans (Below.mono Hm.out (Nat.le_of_lt H.out.1.lt)) b2⟩
    clear r2 b2
    go_wp2
    go_ret2
    exact ⟨rfl, H2.out.1, H2.out.2⟩
  | false =>
    have ha : q.ahead = true := by rcases Hok.out with h | h; cases h; exact h
    rw [ha] at ca5
    clear ha
    go_wp2_with (fail)
    refine (seq_show _ M rv cv _ se 2 k how H.out.2 (H.out.1.more Hm.out).run).mono ?_
    rintro e w2 ⟨rfl, r2, b2, _⟩
    have H2 : Hid (RunS w2 M rv cv x q (se ++ [⟨2, k, how⟩]) ∧ Below M w w2) := ⟨⟨r2⟩, Below.trans (Below.mono Hm.out (Nat.le_of_lt H.out.1.lt)) b2⟩
    clear r2 b2
    go_wp2
    go_ret2
    exact ⟨rfl, H2.out.1, H2.out.2⟩

/-- The word is not there, and the run is not ahead of time: it ends. -/
theorem spec_reach_no (op a b c n k how : Int) (w : World) (M : Nat) (rv cv : Value) (x : Ms) (q : Tl) (se : List Se) (h : RunS w M rv cv x q se) (ha : q.ahead = false)
    (hN : ∀ w1, More w w1 → Calls Try.prog 92 #[.pointer (some ⟨M, 0, none⟩), .agg #[.int .i64 op, .int .i64 a, .int .i64 b, .int .i64 c, .int .i64 n]] w1 fun e w' => e = .returned (.tuple #[.int .i64 k, .bool false]) ∧ More w1 w') :
    Calls Try.prog 96 #[.pointer (some ⟨M, 0, none⟩), .agg #[.int .i64 op, .int .i64 a, .int .i64 b, .int .i64 c, .int .i64 n], .int .i64 how] w fun e w' =>
      e = .returned (.tuple #[.int .i64 0, .bool false]) ∧ RunS w' M rv cv { x with fin := 2, ended := true } q se ∧ Below M w w' := by
  have HN := hid_of' hN
  have H : Hid (RunS w M rv cv x q se) := h
  obtain ⟨S, HS⟩ : ∃ S : World → Prop, Hid (∀ w', S w' ↔ More (w.alloc (.cells #[.int .i64 op, .int .i64 a, .int .i64 b, .int .i64 c, .int .i64 n] 34)) w') := ⟨_, fun _ => Iff.rfl⟩
  have k0 : ∀ i : { w' // S w' }, i.val.cell? ⟨w.heap.size, 0, none⟩ = some (.int .i64 op) := fun i => ((HS.out _).1 i.property).cell (by go_simp)
  have k1 : ∀ i : { w' // S w' }, i.val.cell? ⟨w.heap.size, 1, none⟩ = some (.int .i64 a) := fun i => ((HS.out _).1 i.property).cell (by go_simp)
  have k2 : ∀ i : { w' // S w' }, i.val.cell? ⟨w.heap.size, 2, none⟩ = some (.int .i64 b) := fun i => ((HS.out _).1 i.property).cell (by go_simp)
  have k3 : ∀ i : { w' // S w' }, i.val.cell? ⟨w.heap.size, 3, none⟩ = some (.int .i64 c) := fun i => ((HS.out _).1 i.property).cell (by go_simp)
  have k4 : ∀ i : { w' // S w' }, i.val.cell? ⟨w.heap.size, 4, none⟩ = some (.int .i64 n) := fun i => ((HS.out _).1 i.property).cell (by go_simp)
  have hne : Nonempty { w' // S w' } := ⟨⟨_, (HS.out _).2 (More.refl _)⟩⟩
  have ca := h.ahead.1
  rw [ha] at ca
  clear h hN ha
  go_enter Try.func96, Try.ntmps96
  go_wp2_with (fail)
  refine wp_region_ord (S := S) [(0, true), (1, true), (2, true), (3, true), (4, false), (5, true), (6, true), (7, true), (8, true), (9, true)] (by kernel_rfl) (by kernel_rfl) (by kernel_rfl) ((HS.out _).2 (More.refl _).drew) ?_
  iterate 4 (refine wpOrd_take rfl (by kernel_rfl) (fun K hK => ?_); go_simp; refine hK _ _ ?_; clear hK K)
  refine wpOrd_busy rfl (by kernel_rfl) (fun K hK => ?_); go_simp
  refine (HN.out _ ((More.refl _).alloc _ _).drew).mono ?_
  rintro e w5 ⟨rfl, m5⟩
  have Hm5 : Hid (More (w.alloc (.cells #[.int .i64 op, .int .i64 a, .int .i64 b, .int .i64 c, .int .i64 n] 34)) w5) := (More.refl _).drew.trans m5
  have Hm : Hid (More w w5) := ((More.refl _).alloc _ _).trans Hm5.out
  have ca5 := Hm.out.cell ca
  clear m5
  go_simp
  refine hK _ _ ((HS.out _).2 Hm5.out) ?_; clear hK K
  iterate 5 (refine wpOrd_take rfl (by kernel_rfl) (fun K hK => ?_); go_simp; refine hK _ _ ?_; clear hK K)
  refine wpOrd_done ?_
  clear k0 k1 k2 k3 k4 hne ca
  go_wp2_with (fail)
  refine (seq_finish _ M rv cv _ se 2 (H.out.more Hm.out).run).mono ?_
  rintro e w2 ⟨rfl, r2, b2⟩
  have H2 : Hid (RunS w2 M rv cv { x with fin := 2, ended := true } q se ∧ Below M w w2) := ⟨⟨r2⟩, Below.trans (Below.mono Hm.out (Nat.le_of_lt H.out.lt)) b2⟩
  clear r2 b2
  go_wp2
  go_ret2
  exact ⟨rfl, H2.out.1, H2.out.2⟩

set_option maxHeartbeats 400000 in
theorem spec_endsAhead (op a b c n : Int) (w : World) (M : Nat) (rv cv : Value) (x : Ms) (q : Tl) (se : List Se) (h : RunS w M rv cv x q se) :
    Calls Try.prog 84 #[.pointer (some ⟨M, 0, none⟩), .agg #[.int .i64 op, .int .i64 a, .int .i64 b, .int .i64 c, .int .i64 n]] w fun e w' => e = .returned (.bool (decide (op = 12 ∨ op = 9 ∨ x.steps = q.til))) ∧ More w w' := by
  have hM := h.lt
  have hn : ¬ M = w.heap.size := by omega
  have hn' : ¬ w.heap.size = M := by omega
  have cs := h.run.steps.1
  have ct := h.til.1
  dsimp only at cs
  obtain ⟨s, hs⟩ : ∃ s, x.steps = s := ⟨_, rfl⟩
  obtain ⟨t, ht⟩ : ∃ t, q.til = t := ⟨_, rfl⟩
  rw [hs] at cs ⊢
  rw [ht] at ct ⊢
  clear h hs ht
  by_cases h12 : op = 12
  · subst h12
    go_enter Try.func84, Try.ntmps84
    go_wp2
    go_region
    go_wp2
    go_ret
    exact ⟨by simp, ((More.refl _).alloc _ _).drew⟩
  have h12' : (op == 12) = false := by simp [h12]
  by_cases h9 : op = 9
  · subst h9
    go_enter Try.func84, Try.ntmps84
    go_wp2
    go_region
    go_wp2
    go_ret
    exact ⟨by simp, ((More.refl _).alloc _ _).drew⟩
  have h9' : (op == 9) = false := by simp [h9]
  go_enter Try.func84, Try.ntmps84
  go_wp2
  go_region
  go_wp2
  go_ret
  exact ⟨by simp [h12, h9]; by_cases e : s = t <;> simp [e], ((More.refl _).alloc _ _).drew⟩

theorem spec_halt_ahead (op a b c n : Int) (w : World) (M : Nat) (rv cv : Value) (x : Ms) (q : Tl) (se : List Se) (h : RunS w M rv cv x q se) (ha : q.ahead = true) :
    Calls Try.prog 83 #[.pointer (some ⟨M, 0, none⟩), .agg #[.int .i64 op, .int .i64 a, .int .i64 b, .int .i64 c, .int .i64 n]] w fun e w' => e = .returned (.tuple #[]) ∧ More w w' := by
  have hM := h.lt
  have ca := h.ahead.1
  rw [ha] at ca
  clear h ha
  go_enter Try.func83, Try.ntmps83
  go_wp2
  go_end0
  exact ⟨rfl, (More.refl _).alloc _ _⟩

theorem spec_halt (op a b c n : Int) (w : World) (M : Nat) (rv cv : Value) (x x2 : Ms) (q q2 : Tl) (se se2 : List Se) (h : RunS w M rv cv x q se) (ha : q.ahead = false)
    (hD : ∀ w1, More w w1 → Calls Try.prog 47 #[.pointer (some ⟨M, 0, none⟩), .agg #[.int .i64 op, .int .i64 a, .int .i64 b, .int .i64 c, .int .i64 n]] w1 fun e w' => e = .returned (.tuple #[]) ∧ RunS w' M rv cv x2 q2 se2 ∧ Below M w1 w') :
    Calls Try.prog 83 #[.pointer (some ⟨M, 0, none⟩), .agg #[.int .i64 op, .int .i64 a, .int .i64 b, .int .i64 c, .int .i64 n]] w fun e w' => e = .returned (.tuple #[]) ∧ RunS w' M rv cv x2 q2 se2 ∧ Below M w w' := by
  have hM := h.lt
  have ca := h.ahead.1
  rw [ha] at ca
  have HD := hid_of' hD
  clear h ha hD
  go_enter Try.func83, Try.ntmps83
  go_wp2_with (fail)
  go_region_with (go_at_call 47; refine (HD.out _ ?_).mono ?_; exact ((More.refl _).alloc _ _).drew; rintro e w2 ⟨rfl, r2, b2⟩; have H2 := hid_of' (And.intro r2 b2); clear r2 b2)
  go_wp2
  go_end0
  exact ⟨rfl, H2.out.1, Below.trans (below_drew (below_alloc (Below.refl _ _) (Nat.le_of_lt hM) _)) H2.out.2⟩
end Go.Proofs.Ytbfhchhggkpbdaa

/-
  What the runner's take comes to.
-/
namespace Go.Proofs.Ytbfhchhggkpbdaa
open Go.RowKit
set_option linter.unusedVariables false
set_option linter.unusedSimpArgs false
set_option maxRecDepth 8000

/-- Ahead of time from here on, if not already. -/
def Tl.left (q : Tl) (x : Ms) : Tl := if q.ahead = true then q else { q with ahead := true, br := x.r, bw := x.wd, bn := x.next, bp := q.puts, til := x.steps + 12 }

theorem spec_leave (w : World) (M : Nat) (rv cv : Value) (x : Ms) (q : Tl) (se : List Se) (h : RunS w M rv cv x q se) (s0 : 0 ≤ x.steps) (s1 : x.steps ≤ 100000) :
    Calls Try.prog 95 #[.pointer (some ⟨M, 0, none⟩)] w fun e w' => e = .returned (.tuple #[]) ∧ RunS w' M rv cv x (q.left x) se ∧ Below M w w' := by
  unfold Tl.left
  by_cases ha : q.ahead = true
  · rw [if_pos ha]
    refine (spec_goAhead_already w M rv cv x q se h ha).mono ?_
    rintro e w' ⟨rfl, rfl⟩
    exact ⟨rfl, h, Below.refl _ _⟩
  · rw [if_neg ha]
    exact spec_goAhead w M rv cv x q se h (by simpa using ha) s0 s1

theorem MapAt.below {w w' : World} {b M : Nat} {f : Int → Int → Int} (h : MapAt w b f) (hb : Below M w w') (hlt : b < M) : MapAt w' b f := h.block (Below.block hb b hlt)
theorem cell_of_box {w : World} {R : Nat} {c : Array Value} {T : TypeId} (h : w.heap[R]? = some (.cells c T (0, 0))) (j : Nat) (v : Value) (hv : c[j]? = some v) : w.cell? ⟨R, j, none⟩ = some v := by
  rw [cell_of_row w R j c T (0, 0) h]; exact hv

/-- The number that the instruction means, and whether that word is there; whatever else is left alone. -/
def NumHyp (op a b c n k : Int) (t : Bool) (M : Nat) (rv cv : Value) (x : Ms) (q : Tl) (se : List Se) : Prop :=
  ∀ w1 mo, RunS w1 M rv cv { x with mo := mo } q se → Calls Try.prog 92 #[.pointer (some ⟨M, 0, none⟩), .agg #[.int .i64 op, .int .i64 a, .int .i64 b, .int .i64 c, .int .i64 n]] w1 fun e w' => e = .returned (.tuple #[.int .i64 k, .bool t]) ∧ More w1 w'

theorem spec_take_no (op a b c n k : Int) (w : World) (M : Nat) (rv cv : Value) (x : Ms) (q : Tl) (se : List Se) (h : RunS w M rv cv x q se) (ha : q.ahead = false) (hN : NumHyp op a b c n k false M rv cv x q se) :
    Calls Try.prog 81 #[.pointer (some ⟨M, 0, none⟩), .agg #[.int .i64 op, .int .i64 a, .int .i64 b, .int .i64 c, .int .i64 n]] w fun e w' => e = .returned (.tuple #[]) ∧ RunS w' M rv cv { x with fin := 2, ended := true } q se ∧ Below M w w' := by
  have hM := h.lt
  have HR := hid_of' (spec_reach_no op a b c n k 0 _ M rv cv _ q se (h.beside (.cells #[.int .i64 op, .int .i64 a, .int .i64 b, .int .i64 c, .int .i64 n] 34)) ha (fun w1 m1 => hN w1 _ ((h.beside _).more m1)))
  clear h ha hN
  go_enter Try.func81, Try.ntmps81
  go_wp2_with (fail)
  refine HR.out.mono ?_
  rintro e w2 ⟨rfl, r2, b2⟩
  have H2 := hid_of' (And.intro r2 b2)
  clear r2 b2 HR
  go_wp2
  refine bodyPost_ret (results_none (by kernel_rfl) _ _ _) rfl ?_
  exact ⟨rfl, H2.out.1.fewer x.mo (fun p hp => List.mem_cons_of_mem _ hp), Below.trans (below_alloc (Below.refl _ _) (Nat.le_of_lt hM) _) H2.out.2⟩

set_option maxHeartbeats 400000 in
theorem spec_take_out (op a b c n k : Int) (t : Bool) (w : World) (M : Nat) (ra : Option Addr) (rl rc : Nat) (cv : Value) (x : Ms) (q : Tl) (se : List Se) (h : RunS w M (.slice ra rl rc) cv x q se) (hl : se.length ≤ 200000) (hok : t = true ∨ q.ahead = true) (hrl : rl ≤ 6) (a0 : 0 ≤ a) (a1 : a < 10)
    (hk : ¬ (0 ≤ k ∧ k < x.st rl)) (hN : NumHyp op a b c n k t M (.slice ra rl rc) cv x q se) :
    Calls Try.prog 81 #[.pointer (some ⟨M, 0, none⟩), .agg #[.int .i64 op, .int .i64 a, .int .i64 b, .int .i64 c, .int .i64 n]] w fun e w' => e = .returned (.tuple #[]) ∧ RunS w' M (.slice ra rl rc) cv { x with r := setR x.r a 0 } q (se ++ [⟨2, k, 0⟩]) ∧ Below M w w' := by
  have hM := h.lt
  have HR := hid_of' (spec_reach_ok op a b c n k 0 t _ M (.slice ra rl rc) cv _ q se (h.beside (.cells #[.int .i64 op, .int .i64 a, .int .i64 b, .int .i64 c, .int .i64 n] 34)) hl hok (fun w1 m1 => hN w1 _ ((h.beside _).more m1)))
  have Hk : Hid (¬ (0 ≤ k ∧ k < x.st rl) ∧ rl ≤ 6 ∧ a.toNat < 10) := ⟨hk, hrl, by omega⟩
  clear h hok hN hl hk hrl
  go_enter Try.func81, Try.ntmps81
  go_wp2_with (fail)
  refine HR.out.mono ?_
  rintro e w2 ⟨rfl, r2, b2⟩
  have H2 := hid_of' (And.intro r2 b2)
  clear r2 b2 HR
  have hW := spec_hasWord w2 M ra rl rc cv _ _ k H2.out.1.run Hk.out.2.1
  dsimp only at hW
  rw [show (decide (0 ≤ k) && decide (k < x.st rl)) = false by rw [← Bool.decide_and]; exact decide_eq_false Hk.out.1] at hW
  have HW := hid_of' hW
  clear hW
  go_wp2_with (fail)
  refine HW.out.mono ?_
  rintro e w3 ⟨rfl, m3⟩
  have H3 := hid_of' (And.intro (H2.out.1.more m3) m3)
  have q1 := cell_of_box (H3.out.1.left (List.mem_cons_self)) 1 (.int .i64 a) (by simp)
  obtain ⟨ya, fa⟩ := H3.out.1.run.r a.toNat Hk.out.2.2
  dsimp only at ya q1
  clear m3 HW
  have hn : ¬ M = w.heap.size := by omega
  have hn' : ¬ w.heap.size = M := by omega
  go_wp2
  go_region
  go_wp2
  refine bodyPost_ret (results_none (by kernel_rfl) _ _ _) rfl ?_
  refine ⟨rfl, ⟨((H3.out.1.fewer x.mo (fun p hp => List.mem_cons_of_mem _ hp)).run.setR a.toNat Hk.out.2.2 0).drew⟩, ?_⟩
  exact below_drew (below_put (below_more (Below.trans (below_alloc (Below.refl _ _) (Nat.le_of_lt hM) _) H2.out.2) (Nat.le_of_lt H2.out.1.lt) H3.out.2) _ _)

set_option maxHeartbeats 400000 in
theorem spec_take_plain (op a b c n k : Int) (t : Bool) (w : World) (M B : Nat) (ra : Option Addr) (rl rc : Nat) (cv : Value) (x : Ms) (q : Tl) (se : List Se) (L : List Int) (f : Int → Int → Int) (h : RunS w M (.slice ra rl rc) cv x q se) (hl : se.length ≤ 200000) (hok : t = true ∨ q.ahead = true) (hrl : rl ≤ 6) (a0 : 0 ≤ a) (a1 : a < 10)
    (hk : 0 ≤ k ∧ k < x.st rl) (hst : x.st rl ≤ 384) (hp : q.puts k.toNat ≤ 100000) (hmb : q.mb < M) (hB : B ≤ M) (s0 : 0 ≤ x.steps) (s1 : x.steps ≤ 100000) (hs : ScAt w B q.sc L) (hm : MapAt w q.mb f) (hc : L.headD 0 = 0 ∨ q.puts k.toNat < L.headD 0) (hN : NumHyp op a b c n k t M (.slice ra rl rc) cv x q se) :
    Calls Try.prog 81 #[.pointer (some ⟨M, 0, none⟩), .agg #[.int .i64 op, .int .i64 a, .int .i64 b, .int .i64 c, .int .i64 n]] w fun e w' => e = .returned (.tuple #[]) ∧ Below M w w' ∧ ∃ sc', ScAt w' B sc' L.tail ∧ RunS w' M (.slice ra rl rc) cv { x with r := setR x.r a (x.wd k.toNat) } { q with sc := sc' } (se ++ [⟨2, k, 0⟩]) := by
  suffices H0 : ∀ P : Ending → World → Prop, (∀ e w', (e = .returned (.tuple #[]) ∧ Below M w w' ∧ ∃ sc', ScAt w' B sc' L.tail ∧ RunS w' M (.slice ra rl rc) cv { x with r := setR x.r a (x.wd k.toNat) } { q with sc := sc' } (se ++ [⟨2, k, 0⟩])) → P e w') → Calls Try.prog 81 #[.pointer (some ⟨M, 0, none⟩), .agg #[.int .i64 op, .int .i64 a, .int .i64 b, .int .i64 c, .int .i64 n]] w P from H0 _ (fun _ _ h => h)
  intro P hP
  have HP := hid_of' hP
  clear hP
  obtain ⟨d, hd⟩ : ∃ d, L.headD 0 = d := ⟨_, rfl⟩
  rw [hd] at hc
  have Hd := hid_of' hd
  clear hd
  have hM := h.lt
  have HR := hid_of' (spec_reach_ok op a b c n k 0 t _ M (.slice ra rl rc) cv _ q se (h.beside (.cells #[.int .i64 op, .int .i64 a, .int .i64 b, .int .i64 c, .int .i64 n] 34)) hl hok (fun w1 m1 => hN w1 _ ((h.beside _).more m1)))
  have Hk : Hid ((0 ≤ k ∧ k < x.st rl) ∧ rl ≤ 6 ∧ a.toNat < 10 ∧ k.toNat < 384 ∧ q.puts k.toNat ≤ 100000 ∧ q.mb < M ∧ B ≤ M) := ⟨hk, hrl, by omega, by omega, hp, hmb, hB⟩
  have HS := hid_of' (And.intro hs hm)
  have HC := hid_of' hc
  have Hst : Hid (0 ≤ x.steps ∧ x.steps ≤ 100000) := ⟨s0, s1⟩
  have k0 : 0 ≤ k := hk.1
  have k1 : k < 384 := by omega
  clear h hok hN hl hk hrl hs hm hc hp hmb hst hB s0 s1
  go_enter Try.func81, Try.ntmps81
  go_wp2_with (fail)
  refine HR.out.mono ?_
  rintro e w2 ⟨rfl, r2, b2⟩
  have H2 := hid_of' (And.intro r2 b2)
  clear r2 b2 HR
  have hW := spec_hasWord w2 M ra rl rc cv _ _ k H2.out.1.run Hk.out.2.1
  dsimp only at hW
  rw [show (decide (0 ≤ k) && decide (k < x.st rl)) = true by rw [← Bool.decide_and]; exact decide_eq_true Hk.out.1] at hW
  have HW := hid_of' hW
  clear hW
  go_wp2_with (fail)
  refine HW.out.mono ?_
  rintro e w3 ⟨rfl, m3⟩
  have H3 := hid_of' (And.intro (H2.out.1.more m3) (below_more (Below.trans (below_alloc (Below.refl _ _) (Nat.le_of_lt hM) _) H2.out.2) (Nat.le_of_lt H2.out.1.lt) m3))
  have q1 := cell_of_box (H3.out.1.left (List.mem_cons_self)) 1 (.int .i64 a) (by simp)
  obtain ⟨ya, fa⟩ := H3.out.1.run.r a.toNat Hk.out.2.2.1
  have yk := (H3.out.1.run.wd k.toNat Hk.out.2.2.2.1).1
  dsimp only at ya q1 yk
  clear m3 HW
  have hn : ¬ M = w.heap.size := by omega
  have hn' : ¬ w.heap.size = M := by omega
  go_wp2
  go_region
  obtain ⟨w4, hw4⟩ : ∃ w4, w4 = (w3.setCell ⟨M, 7 + a.toNat, none⟩ (.int .i64 (x.wd k.toNat))).drew := ⟨_, rfl⟩
  have HW4 := hid_of' hw4
  rw [← hw4]
  have h4 : RunS w4 M (.slice ra rl rc) cv { x with r := setR x.r a (x.wd k.toNat), mo := (w.heap.size, .cells #[.int .i64 op, .int .i64 a, .int .i64 b, .int .i64 c, .int .i64 n] 34) :: x.mo } q (se ++ [⟨2, k, 0⟩]) ∧ Below M w w4 := by
    rw [hw4]
    exact ⟨⟨(H3.out.1.run.setR a.toNat Hk.out.2.2.1 (x.wd k.toNat)).drew⟩, below_drew (below_put H3.out.2 _ _)⟩
  have H4 := hid_of' h4
  clear q1 ya fa yk hw4 h4
  have hCh := (spec_choice w4 M B (.slice ra rl rc) cv _ q _ L H4.out.1 (HS.out.1.below (Below.mono H4.out.2 Hk.out.2.2.2.2.2.2)) Hk.out.2.2.2.2.2.2)
  rw [Hd.out] at hCh
  have HCh := hid_of' hCh
  clear hCh
  go_wp2_with (fail)
  refine HCh.out.mono ?_
  rintro e w5 ⟨rfl, b5, sc', r5, s5⟩
  have H5 := hid_of' (And.intro r5 (And.intro s5 (Below.trans H4.out.2 b5)))
  clear r5 s5 b5 HCh
  have HWs := hid_of' (spec_was_no w5 M (.slice ra rl rc) cv _ _ _ k d H5.out.1 k0 k1 HC.out)
  go_wp2_with (fail)
  refine HWs.out.mono ?_
  rintro e w6 ⟨rfl, rfl⟩
  clear HWs
  go_wp2
  go_end0
  exact HP.out _ _ ⟨rfl, H5.out.2.2, sc', H5.out.2.1, H5.out.1.fewer x.mo (fun p hp => List.mem_cons_of_mem _ hp)⟩

set_option maxHeartbeats 400000 in
theorem spec_take_was (op a b c n k : Int) (t : Bool) (w : World) (M B : Nat) (ra : Option Addr) (rl rc : Nat) (cv : Value) (x : Ms) (q : Tl) (se : List Se) (L : List Int) (f : Int → Int → Int) (h : RunS w M (.slice ra rl rc) cv x q se) (hl : se.length ≤ 200000) (hok : t = true ∨ q.ahead = true) (hrl : rl ≤ 6) (a0 : 0 ≤ a) (a1 : a < 10)
    (hk : 0 ≤ k ∧ k < x.st rl) (hst : x.st rl ≤ 384) (hp : q.puts k.toNat ≤ 100000) (hmb : q.mb < M) (hB : B ≤ M) (s0 : 0 ≤ x.steps) (s1 : x.steps ≤ 100000) (hs : ScAt w B q.sc L) (hm : MapAt w q.mb f) (hc : 0 < L.headD 0 ∧ L.headD 0 ≤ q.puts k.toNat) (hN : NumHyp op a b c n k t M (.slice ra rl rc) cv x q se) :
    Calls Try.prog 81 #[.pointer (some ⟨M, 0, none⟩), .agg #[.int .i64 op, .int .i64 a, .int .i64 b, .int .i64 c, .int .i64 n]] w fun e w' => e = .returned (.tuple #[]) ∧ Below M w w' ∧ ∃ sc', ScAt w' B sc' L.tail ∧ RunS w' M (.slice ra rl rc) cv { x with r := setR (setR x.r a (x.wd k.toNat)) a (f k (q.puts k.toNat - L.headD 0)) } (Tl.left { q with sc := sc' } { x with r := setR x.r a (x.wd k.toNat) }) (se ++ [⟨2, k, 0⟩]) := by
  suffices H0 : ∀ P : Ending → World → Prop, (∀ e w', (e = .returned (.tuple #[]) ∧ Below M w w' ∧ ∃ sc', ScAt w' B sc' L.tail ∧ RunS w' M (.slice ra rl rc) cv { x with r := setR (setR x.r a (x.wd k.toNat)) a (f k (q.puts k.toNat - L.headD 0)) } (Tl.left { q with sc := sc' } { x with r := setR x.r a (x.wd k.toNat) }) (se ++ [⟨2, k, 0⟩])) → P e w') → Calls Try.prog 81 #[.pointer (some ⟨M, 0, none⟩), .agg #[.int .i64 op, .int .i64 a, .int .i64 b, .int .i64 c, .int .i64 n]] w P from H0 _ (fun _ _ h => h)
  intro P hP
  have HP := hid_of' hP
  clear hP
  obtain ⟨d, hd⟩ : ∃ d, L.headD 0 = d := ⟨_, rfl⟩
  rw [hd] at hc HP
  have Hd := hid_of' hd
  clear hd
  have hM := h.lt
  have HR := hid_of' (spec_reach_ok op a b c n k 0 t _ M (.slice ra rl rc) cv _ q se (h.beside (.cells #[.int .i64 op, .int .i64 a, .int .i64 b, .int .i64 c, .int .i64 n] 34)) hl hok (fun w1 m1 => hN w1 _ ((h.beside _).more m1)))
  have Hk : Hid ((0 ≤ k ∧ k < x.st rl) ∧ rl ≤ 6 ∧ a.toNat < 10 ∧ k.toNat < 384 ∧ q.puts k.toNat ≤ 100000 ∧ q.mb < M ∧ B ≤ M) := ⟨hk, hrl, by omega, by omega, hp, hmb, hB⟩
  have HS := hid_of' (And.intro hs hm)
  have HC := hid_of' hc
  have Hst : Hid (0 ≤ x.steps ∧ x.steps ≤ 100000) := ⟨s0, s1⟩
  have k0 : 0 ≤ k := hk.1
  have k1 : k < 384 := by omega
  clear h hok hN hl hk hrl hs hm hc hp hmb hst hB s0 s1
  go_enter Try.func81, Try.ntmps81
  go_wp2_with (fail)
  refine HR.out.mono ?_
  rintro e w2 ⟨rfl, r2, b2⟩
  have H2 := hid_of' (And.intro r2 b2)
  clear r2 b2 HR
  have hW := spec_hasWord w2 M ra rl rc cv _ _ k H2.out.1.run Hk.out.2.1
  dsimp only at hW
  rw [show (decide (0 ≤ k) && decide (k < x.st rl)) = true by rw [← Bool.decide_and]; exact decide_eq_true Hk.out.1] at hW
  have HW := hid_of' hW
  clear hW
  go_wp2_with (fail)
  refine HW.out.mono ?_
  rintro e w3 ⟨rfl, m3⟩
  have H3 := hid_of' (And.intro (H2.out.1.more m3) (below_more (Below.trans (below_alloc (Below.refl _ _) (Nat.le_of_lt hM) _) H2.out.2) (Nat.le_of_lt H2.out.1.lt) m3))
  have q1 := cell_of_box (H3.out.1.left (List.mem_cons_self)) 1 (.int .i64 a) (by simp)
  obtain ⟨ya, fa⟩ := H3.out.1.run.r a.toNat Hk.out.2.2.1
  have yk := (H3.out.1.run.wd k.toNat Hk.out.2.2.2.1).1
  dsimp only at ya q1 yk
  clear m3 HW
  have hn : ¬ M = w.heap.size := by omega
  have hn' : ¬ w.heap.size = M := by omega
  go_wp2
  go_region
  obtain ⟨w4, hw4⟩ : ∃ w4, w4 = (w3.setCell ⟨M, 7 + a.toNat, none⟩ (.int .i64 (x.wd k.toNat))).drew := ⟨_, rfl⟩
  have HW4 := hid_of' hw4
  rw [← hw4]
  have h4 : RunS w4 M (.slice ra rl rc) cv { x with r := setR x.r a (x.wd k.toNat), mo := (w.heap.size, .cells #[.int .i64 op, .int .i64 a, .int .i64 b, .int .i64 c, .int .i64 n] 34) :: x.mo } q (se ++ [⟨2, k, 0⟩]) ∧ Below M w w4 := by
    rw [hw4]
    exact ⟨⟨(H3.out.1.run.setR a.toNat Hk.out.2.2.1 (x.wd k.toNat)).drew⟩, below_drew (below_put H3.out.2 _ _)⟩
  have H4 := hid_of' h4
  clear q1 ya fa yk hw4 h4
  have hCh := (spec_choice w4 M B (.slice ra rl rc) cv _ q _ L H4.out.1 (HS.out.1.below (Below.mono H4.out.2 Hk.out.2.2.2.2.2.2)) Hk.out.2.2.2.2.2.2)
  rw [Hd.out] at hCh
  have HCh := hid_of' hCh
  clear hCh
  go_wp2_with (fail)
  refine HCh.out.mono ?_
  rintro e w5 ⟨rfl, b5, sc', r5, s5⟩
  have H5 := hid_of' (And.intro r5 (And.intro s5 (Below.trans H4.out.2 b5)))
  clear r5 s5 b5 HCh
  have HWs := hid_of' (spec_was_yes w5 M (.slice ra rl rc) cv _ _ _ f k d H5.out.1 (HS.out.2.below H5.out.2.2 Hk.out.2.2.2.2.2.1) k0 k1 HC.out.1 HC.out.2 Hk.out.2.2.2.2.1)
  dsimp only at HWs
  obtain ⟨v, hv⟩ : ∃ v, f k (q.puts k.toNat - d) = v := ⟨_, rfl⟩
  rw [hv] at HWs HP
  clear hv
  go_wp2_with (fail)
  refine HWs.out.mono ?_
  rintro e w6 ⟨rfl, rfl⟩
  clear HWs
  have HLv := hid_of' (spec_leave w6 M (.slice ra rl rc) cv _ _ _ H5.out.1 Hst.out.1 Hst.out.2)
  go_wp2_with (fail)
  refine HLv.out.mono ?_
  rintro e w7 ⟨rfl, r7, b7⟩
  have H7 := hid_of' (And.intro r7 (And.intro (H5.out.2.1.below (Below.mono b7 Hk.out.2.2.2.2.2.2)) (Below.trans H5.out.2.2 b7)))
  have q7 := cell_of_box (H7.out.1.left (List.mem_cons_self)) 1 (.int .i64 a) (by simp)
  obtain ⟨y7, f7⟩ := H7.out.1.run.r a.toNat Hk.out.2.2.1
  dsimp only at q7 y7
  clear r7 b7 HLv
  go_wp2
  go_region
  go_wp2
  go_end0
  refine HP.out _ _ ⟨rfl, below_drew (below_put H7.out.2.2 _ _), sc', ?_, ⟨((H7.out.1.fewer x.mo (fun p hp => List.mem_cons_of_mem _ hp)).run.setR a.toNat Hk.out.2.2.1 v).drew⟩⟩
  exact H7.out.2.1.below (Below.mono (below_drew (below_put (Below.refl _ _) _ _)) Hk.out.2.2.2.2.2.2)
end Go.Proofs.Ytbfhchhggkpbdaa

/-
  What the runner's put comes to.
-/
namespace Go.Proofs.Ytbfhchhggkpbdaa
open Go.RowKit
set_option linter.unusedVariables false
set_option linter.unusedSimpArgs false
set_option maxRecDepth 8000

theorem RunS.setWd {w : World} {M : Nat} {rv cv : Value} {x : Ms} {q : Tl} {se : List Se} (h : RunS w M rv cv x q se) (k : Nat) (hk : k < 384) (n : Int) : RunS (w.setCell ⟨M, 17 + k, none⟩ (.int .i64 n)) M rv cv { x with wd := setN x.wd k n } q se := ⟨h.run.setWd k hk n⟩
theorem RunS.setNext {w : World} {M : Nat} {rv cv : Value} {x : Ms} {q : Tl} {se : List Se} (h : RunS w M rv cv x q se) (n : Int) : RunS (w.setCell ⟨M, 401, none⟩ (.int .i64 n)) M rv cv { x with next := n } q se := ⟨h.run.setNext n⟩

theorem spec_put_no (op a b c n k : Int) (w : World) (M : Nat) (rv cv : Value) (x : Ms) (q : Tl) (se : List Se) (h : RunS w M rv cv x q se) (ha : q.ahead = false) (hN : NumHyp op a b c n k false M rv cv x q se) :
    Calls Try.prog 82 #[.pointer (some ⟨M, 0, none⟩), .agg #[.int .i64 op, .int .i64 a, .int .i64 b, .int .i64 c, .int .i64 n]] w fun e w' => e = .returned (.tuple #[]) ∧ RunS w' M rv cv { x with fin := 2, ended := true } q se ∧ Below M w w' := by
  have hM := h.lt
  have HR := hid_of' (spec_reach_no op a b c n k 1 _ M rv cv _ q se (h.beside (.cells #[.int .i64 op, .int .i64 a, .int .i64 b, .int .i64 c, .int .i64 n] 34)) ha (fun w1 m1 => hN w1 _ ((h.beside _).more m1)))
  clear h ha hN
  go_enter Try.func82, Try.ntmps82
  go_wp2_with (fail)
  refine HR.out.mono ?_
  rintro e w2 ⟨rfl, r2, b2⟩
  have H2 := hid_of' (And.intro r2 b2)
  clear r2 b2 HR
  go_wp2
  refine bodyPost_ret (results_none (by kernel_rfl) _ _ _) rfl ?_
  exact ⟨rfl, H2.out.1.fewer x.mo (fun p hp => List.mem_cons_of_mem _ hp), Below.trans (below_alloc (Below.refl _ _) (Nat.le_of_lt hM) _) H2.out.2⟩

theorem spec_put_out (op a b c n k : Int) (t : Bool) (w : World) (M : Nat) (ra : Option Addr) (rl rc : Nat) (cv : Value) (x : Ms) (q : Tl) (se : List Se) (h : RunS w M (.slice ra rl rc) cv x q se) (hl : se.length ≤ 200000) (hok : t = true ∨ q.ahead = true) (hrl : rl ≤ 6)
    (hk : ¬ (0 ≤ k ∧ k < x.st rl)) (hN : NumHyp op a b c n k t M (.slice ra rl rc) cv x q se) :
    Calls Try.prog 82 #[.pointer (some ⟨M, 0, none⟩), .agg #[.int .i64 op, .int .i64 a, .int .i64 b, .int .i64 c, .int .i64 n]] w fun e w' => e = .returned (.tuple #[]) ∧ RunS w' M (.slice ra rl rc) cv x q (se ++ [⟨2, k, 1⟩]) ∧ Below M w w' := by
  have hM := h.lt
  have HR := hid_of' (spec_reach_ok op a b c n k 1 t _ M (.slice ra rl rc) cv _ q se (h.beside (.cells #[.int .i64 op, .int .i64 a, .int .i64 b, .int .i64 c, .int .i64 n] 34)) hl hok (fun w1 m1 => hN w1 _ ((h.beside _).more m1)))
  have Hk : Hid (¬ (0 ≤ k ∧ k < x.st rl) ∧ rl ≤ 6) := ⟨hk, hrl⟩
  clear h hok hN hl hk hrl
  go_enter Try.func82, Try.ntmps82
  go_wp2_with (fail)
  refine HR.out.mono ?_
  rintro e w2 ⟨rfl, r2, b2⟩
  have H2 := hid_of' (And.intro r2 b2)
  clear r2 b2 HR
  have hW := spec_hasWord w2 M ra rl rc cv _ _ k H2.out.1.run Hk.out.2
  dsimp only at hW
  rw [show (decide (0 ≤ k) && decide (k < x.st rl)) = false by rw [← Bool.decide_and]; exact decide_eq_false Hk.out.1] at hW
  have HW := hid_of' hW
  clear hW
  go_wp2_with (fail)
  refine HW.out.mono ?_
  rintro e w3 ⟨rfl, m3⟩
  have H3 := hid_of' (And.intro (H2.out.1.more m3) m3)
  clear m3 HW
  go_wp2
  refine bodyPost_ret (results_none (by kernel_rfl) _ _ _) rfl ?_
  exact ⟨rfl, H3.out.1.fewer x.mo (fun p hp => List.mem_cons_of_mem _ hp), below_more (Below.trans (below_alloc (Below.refl _ _) (Nat.le_of_lt hM) _) H2.out.2) (Nat.le_of_lt H2.out.1.lt) H3.out.2⟩

set_option maxHeartbeats 400000 in
theorem spec_put_word (op a b c n k : Int) (t : Bool) (w : World) (M : Nat) (ra : Option Addr) (rl rc : Nat) (cv : Value) (x : Ms) (q : Tl) (se : List Se) (f : Int → Int → Int) (h : RunS w M (.slice ra rl rc) cv x q se) (hl : se.length ≤ 200000) (hok : t = true ∨ q.ahead = true) (hrl : rl ≤ 6) (a0 : 0 ≤ a) (a1 : a < 10)
    (hk : 0 ≤ k ∧ k < x.st rl) (hst : x.st rl ≤ 384) (hp0 : 0 ≤ q.puts k.toNat) (hp : q.puts k.toNat ≤ 100000) (hmb : q.mb < M) (hm : MapAt w q.mb f) (hN : NumHyp op a b c n k t M (.slice ra rl rc) cv x q se) :
    Calls Try.prog 82 #[.pointer (some ⟨M, 0, none⟩), .agg #[.int .i64 op, .int .i64 a, .int .i64 b, .int .i64 c, .int .i64 n]] w fun e w' => e = .returned (.tuple #[]) ∧ Below q.mb w w' ∧ MapAt w' q.mb (fun n' t' => if n' = k ∧ t' = q.puts k.toNat then x.wd k.toNat else f n' t') ∧ RunS w' M (.slice ra rl rc) cv { x with wd := setN x.wd k.toNat (x.r a.toNat) } { q with puts := setN q.puts k.toNat (q.puts k.toNat + 1) } (se ++ [⟨2, k, 1⟩]) := by
  suffices H0 : ∀ P : Ending → World → Prop, (∀ e w', (e = .returned (.tuple #[]) ∧ Below q.mb w w' ∧ MapAt w' q.mb (fun n' t' => if n' = k ∧ t' = q.puts k.toNat then x.wd k.toNat else f n' t') ∧ RunS w' M (.slice ra rl rc) cv { x with wd := setN x.wd k.toNat (x.r a.toNat) } { q with puts := setN q.puts k.toNat (q.puts k.toNat + 1) } (se ++ [⟨2, k, 1⟩])) → P e w') → Calls Try.prog 82 #[.pointer (some ⟨M, 0, none⟩), .agg #[.int .i64 op, .int .i64 a, .int .i64 b, .int .i64 c, .int .i64 n]] w P from H0 _ (fun _ _ h => h)
  intro P hP
  have HP := hid_of' hP
  clear hP
  have hM := h.lt
  have HR := hid_of' (spec_reach_ok op a b c n k 1 t _ M (.slice ra rl rc) cv _ q se (h.beside (.cells #[.int .i64 op, .int .i64 a, .int .i64 b, .int .i64 c, .int .i64 n] 34)) hl hok (fun w1 m1 => hN w1 _ ((h.beside _).more m1)))
  have Hk : Hid ((0 ≤ k ∧ k < x.st rl) ∧ rl ≤ 6 ∧ a.toNat < 10 ∧ k.toNat < 384 ∧ q.puts k.toNat ≤ 100000 ∧ q.mb < M ∧ 0 ≤ q.puts k.toNat) := ⟨hk, hrl, by omega, by omega, hp, hmb, hp0⟩
  have HM := hid_of' hm
  have k0 : 0 ≤ k := hk.1
  have k1 : k < 384 := by omega
  clear h hok hN hl hk hrl hm hp hmb hst hp0
  go_enter Try.func82, Try.ntmps82
  go_wp2_with (fail)
  refine HR.out.mono ?_
  rintro e w2 ⟨rfl, r2, b2⟩
  have H2 := hid_of' (And.intro r2 b2)
  clear r2 b2 HR
  have hW := spec_hasWord w2 M ra rl rc cv _ _ k H2.out.1.run Hk.out.2.1
  dsimp only at hW
  rw [show (decide (0 ≤ k) && decide (k < x.st rl)) = true by rw [← Bool.decide_and]; exact decide_eq_true Hk.out.1] at hW
  have HW := hid_of' hW
  clear hW
  go_wp2_with (fail)
  refine HW.out.mono ?_
  rintro e w3 ⟨rfl, m3⟩
  have H3 := hid_of' (And.intro (H2.out.1.more m3) (below_more (Below.trans (below_alloc (Below.refl _ _) (Nat.le_of_lt hM) _) H2.out.2) (Nat.le_of_lt H2.out.1.lt) m3))
  have c412 := H3.out.1.map.1
  have cp := (H3.out.1.puts k.toNat Hk.out.2.2.2.1).1
  have cw := (H3.out.1.run.wd k.toNat Hk.out.2.2.2.1).1
  dsimp only at cw
  obtain ⟨tm, htm⟩ : ∃ tm, q.puts k.toNat = tm := ⟨_, rfl⟩
  obtain ⟨v, hv⟩ : ∃ v, x.wd k.toNat = v := ⟨_, rfl⟩
  obtain ⟨mb, hmb⟩ : ∃ mb, q.mb = mb := ⟨_, rfl⟩
  rw [htm] at cp
  rw [hv] at cw
  rw [hmb] at c412
  have Hv := hid_of' (And.intro htm (And.intro hv hmb))
  clear m3 HW htm hv hmb
  have hn : ¬ M = w.heap.size := by omega
  have hn' : ¬ w.heap.size = M := by omega
  obtain ⟨S, HS⟩ : ∃ S : World → Prop, Hid (∀ w', S w' ↔ (w'.cell? ⟨M, 412, none⟩ = some (.map (some mb)) ∧ w'.cell? ⟨M, 413 + k.toNat, none⟩ = some (.int .i64 tm) ∧ w'.cell? ⟨M, 17 + k.toNat, none⟩ = some (.int .i64 v))) := ⟨_, fun _ => Iff.rfl⟩
  have j1 : ∀ i : { w' // S w' }, i.val.cell? ⟨M, 412, none⟩ = some (.map (some mb)) := fun i => ((HS.out _).1 i.property).1
  have j2 : ∀ i : { w' // S w' }, i.val.cell? ⟨M, 413 + k.toNat, none⟩ = some (.int .i64 tm) := fun i => ((HS.out _).1 i.property).2.1
  have j3 : ∀ i : { w' // S w' }, i.val.cell? ⟨M, 17 + k.toNat, none⟩ = some (.int .i64 v) := fun i => ((HS.out _).1 i.property).2.2
  have hne : Nonempty { w' // S w' } := ⟨⟨w3, (HS.out _).2 ⟨c412, cp, cw⟩⟩⟩
  have hS3 : S w3.drew := (HS.out _).2 ⟨c412, cp, cw⟩
  go_wp2_with (fail)
  refine wp_region_ord (S := S) [(0, true), (1, true), (2, true), (3, true), (4, true), (5, true), (6, true), (7, true), (8, true), (9, true), (10, true), (11, true), (12, true), (13, true), (14, true), (15, true), (16, true), (17, true), (18, true), (19, true), (20, false)] (by kernel_rfl) (by kernel_rfl) (by kernel_rfl) hS3 ?_
  iterate 20 (refine wpOrd_take rfl (by kernel_rfl) (fun K hK => ?_); go_simp; refine hK _ _ ?_; clear hK K)
  refine wpOrd_busy rfl (by kernel_rfl) (fun K hK => ?_)
  have hm3 : MapAt w3.drew mb f := by
    have := (HM.out.below H3.out.2 Hk.out.2.2.2.2.2.1).block (w' := w3.drew) rfl
    rw [Hv.out.2.2] at this
    exact this
  have hmM : mb < M := by rw [← Hv.out.2.2]; exact Hk.out.2.2.2.2.2.1
  refine wp_update (.tmp 25) (.tmp 33) (.tmp 41) rfl mb f k tm v rfl rfl rfl hm3 (by unfold B64; omega) (by have h1 := Hk.out.2.2.2.2.1; have h2 := Hk.out.2.2.2.2.2.2; rw [Hv.out.1] at h1 h2; unfold B64; omega) ?_
  intro w4 m4 g4
  have r4 := H3.out.1.drew.kept g4 (fun b hb => by have := Option.some.inj hb; omega)
  obtain ⟨c413, f413⟩ := r4.puts k.toNat Hk.out.2.2.2.1
  rw [Hv.out.1] at c413
  obtain ⟨c17, f17⟩ := r4.run.wd k.toNat Hk.out.2.2.2.1
  have c7 := (r4.run.r a.toNat Hk.out.2.2.1).1
  have c412' := r4.map.1
  rw [Hv.out.2.2] at c412'
  have q4 := cell_of_box (r4.left (List.mem_cons_self)) 1 (.int .i64 a) (by simp)
  dsimp only at q4 c7 c17
  rw [Hv.out.2.1] at c17
  obtain ⟨ya, hya⟩ : ∃ y, x.r a.toNat = y := ⟨_, rfl⟩
  rw [hya] at c7
  have H4 := hid_of' (And.intro r4 (And.intro m4 (And.intro g4 hya)))
  refine hK _ _ ((HS.out _).2 ⟨c412', c413, c17⟩) ?_; clear hK K
  refine wpOrd_done ?_
  clear j1 j2 j3 hne hS3 hm3 r4 m4 g4 hya c412 cp cw c412'
  have hwt : wrap64 (tm + 1) = tm + 1 := by have h1 := Hk.out.2.2.2.2.1; have h2 := Hk.out.2.2.2.2.2.2; rw [Hv.out.1] at h1 h2; unfold wrap64; omega
  have hwr := wrapEq
  have hnk : ¬ 7 + a.toNat = 413 + k.toNat := by have := Hk.out.2.2.1; omega
  have hnk' : ¬ 17 + k.toNat = 413 + k.toNat := by omega
  go_simp
  go_wp2_with (fail)
  go_region
  go_wp2_with (fail)
  go_region
  go_wp2
  go_end0
  obtain ⟨e1, e2, e3⟩ := Hv.out
  have h5 := ((((H4.out.1.setPut k.toNat Hk.out.2.2.2.1 (tm + 1)).drew).setWd k.toNat Hk.out.2.2.2.1 ya).drew).fewer x.mo (fun p hp => List.mem_cons_of_mem _ hp)
  refine HP.out _ _ ⟨rfl, ?_, ?_, ?_⟩
  · rw [e3]
    have hle : mb ≤ M := Nat.le_of_lt hmM
    exact below_drew (below_drew (Below.setCell (Below.setCell (Below.grown (below_drew (Below.mono H3.out.2 hle)) H4.out.2.2.1 (by have := H3.out.1.lt; simp; omega) (fun b hb => by have := Option.some.inj hb; omega)) hle _) hle _))
  · rw [e1, e2, e3]
    refine H4.out.2.1.block ?_
    show ((w4.setCell ⟨M, 413 + k.toNat, none⟩ _).setCell ⟨M, 17 + k.toNat, none⟩ _).heap[mb]? = _
    rw [Below.heap_setCell _ _ _ _ (by dsimp only; omega), Below.heap_setCell _ _ _ _ (by dsimp only; omega)]
  · rw [e1, H4.out.2.2.2]
    exact h5
end Go.Proofs.Ytbfhchhggkpbdaa

/-
  What the runner's branch comes to.
-/
namespace Go.Proofs.Ytbfhchhggkpbdaa
open Go.RowKit
set_option linter.unusedVariables false
set_option linter.unusedSimpArgs false
set_option maxRecDepth 8000

theorem RunS.next {w : World} {M : Nat} {rv cv : Value} {x : Ms} {q : Tl} {se : List Se} (h : RunS w M rv cv x q se) : Wr w M 401 (.int .i64 x.next) := h.run.next

set_option maxHeartbeats 400000 in
theorem spec_branch (a b c n oth : Int) (hh : Bool) (w : World) (M B : Nat) (rv cv : Value) (x x2 : Ms) (q : Tl) (se : List Se) (L : List Int) (h : RunS w M rv cv x q se) (hB : B ≤ M) (hs : ScAt w B q.sc L) (s0 : 0 ≤ x2.steps) (s1 : x2.steps ≤ 100000)
    (hoth : oth = if hh = true then x.next else n)
    (hH : ∀ w1 mo, RunS w1 M rv cv { x with mo := mo } q se → Calls Try.prog 73 #[.pointer (some ⟨M, 0, none⟩), .agg #[.int .i64 8, .int .i64 a, .int .i64 b, .int .i64 c, .int .i64 n]] w1 fun e w' => e = .returned (.bool hh) ∧ More w1 w')
    (hD : ∀ w1 mo, RunS w1 M rv cv { x with mo := mo } q se → Calls Try.prog 47 #[.pointer (some ⟨M, 0, none⟩), .agg #[.int .i64 8, .int .i64 a, .int .i64 b, .int .i64 c, .int .i64 n]] w1 fun e w' => e = .returned (.tuple #[]) ∧ RunS w' M rv cv { x2 with mo := mo } q se ∧ Below M w1 w') :
    Calls Try.prog 80 #[.pointer (some ⟨M, 0, none⟩), .agg #[.int .i64 8, .int .i64 a, .int .i64 b, .int .i64 c, .int .i64 n]] w fun e w' => e = .returned (.tuple #[]) ∧ Below M w w' ∧ ∃ sc', ScAt w' B sc' L.tail ∧
      RunS w' M rv cv (if L.headD 0 = 0 then { x2 with mo := x.mo } else { x2 with next := oth, mo := x.mo }) (if L.headD 0 = 0 then { q with sc := sc' } else Tl.left { q with sc := sc' } x2) se := by
  suffices H0 : ∀ P : Ending → World → Prop, (∀ e w', (e = .returned (.tuple #[]) ∧ Below M w w' ∧ ∃ sc', ScAt w' B sc' L.tail ∧
      RunS w' M rv cv (if L.headD 0 = 0 then { x2 with mo := x.mo } else { x2 with next := oth, mo := x.mo }) (if L.headD 0 = 0 then { q with sc := sc' } else Tl.left { q with sc := sc' } x2) se) → P e w') → Calls Try.prog 80 #[.pointer (some ⟨M, 0, none⟩), .agg #[.int .i64 8, .int .i64 a, .int .i64 b, .int .i64 c, .int .i64 n]] w P from H0 _ (fun _ _ h => h)
  intro P hP
  obtain ⟨d, hd⟩ : ∃ d, L.headD 0 = d := ⟨_, rfl⟩
  rw [hd] at hP
  have HP := hid_of' hP
  have Hd := hid_of' hd
  clear hP hd
  have hM := h.lt
  have hn : ¬ M = w.heap.size := by omega
  have hn' : ¬ w.heap.size = M := by omega
  have hx := h.next.1
  obtain ⟨nx, hnx⟩ : ∃ nx, x.next = nx := ⟨_, rfl⟩
  rw [hnx] at hx hoth
  have H := hid_of' (And.intro (h.beside (.cells #[.int .i64 8, .int .i64 a, .int .i64 b, .int .i64 c, .int .i64 n] 34)) (And.intro hs (And.intro hB (And.intro s0 s1))))
  have HH := hid_of' hH
  have HD := hid_of' hD
  have Ho := hid_of' hoth
  clear h hs hB s0 s1 hH hD hoth hnx
  obtain ⟨S, HS⟩ : ∃ S : World → Prop, Hid (∀ w', S w' ↔ More (w.alloc (.cells #[.int .i64 8, .int .i64 a, .int .i64 b, .int .i64 c, .int .i64 n] 34)) w') := ⟨_, fun _ => Iff.rfl⟩
  have k0 : ∀ i : { w' // S w' }, i.val.cell? ⟨w.heap.size, 0, none⟩ = some (.int .i64 8) := fun i => ((HS.out _).1 i.property).cell (by go_simp)
  have k1 : ∀ i : { w' // S w' }, i.val.cell? ⟨w.heap.size, 1, none⟩ = some (.int .i64 a) := fun i => ((HS.out _).1 i.property).cell (by go_simp)
  have k2 : ∀ i : { w' // S w' }, i.val.cell? ⟨w.heap.size, 2, none⟩ = some (.int .i64 b) := fun i => ((HS.out _).1 i.property).cell (by go_simp)
  have k3 : ∀ i : { w' // S w' }, i.val.cell? ⟨w.heap.size, 3, none⟩ = some (.int .i64 c) := fun i => ((HS.out _).1 i.property).cell (by go_simp)
  have k4 : ∀ i : { w' // S w' }, i.val.cell? ⟨w.heap.size, 4, none⟩ = some (.int .i64 n) := fun i => ((HS.out _).1 i.property).cell (by go_simp)
  have hne : Nonempty { w' // S w' } := ⟨⟨_, (HS.out _).2 (More.refl _)⟩⟩
  go_enter Try.func80, Try.ntmps80
  go_wp2_with (fail)
  refine wp_region_ord (S := S) [(0, true), (1, true), (2, true), (3, true), (4, false), (5, true)] (by kernel_rfl) (by kernel_rfl) (by kernel_rfl) ((HS.out _).2 (More.refl _).drew) ?_
  iterate 4 (refine wpOrd_take rfl (by kernel_rfl) (fun K hK => ?_); go_simp; refine hK _ _ ?_; clear hK K)
  refine wpOrd_busy rfl (by kernel_rfl) (fun K hK => ?_); go_simp
  refine (HH.out _ _ H.out.1.drew).mono ?_
  rintro e w5 ⟨rfl, m5⟩
  have Hm5 : Hid (More (w.alloc (.cells #[.int .i64 8, .int .i64 a, .int .i64 b, .int .i64 c, .int .i64 n] 34)) w5) := (More.refl _).drew.trans m5
  have q0 := Hm5.out.cell (a := ⟨w.heap.size, 0, none⟩) (v := .int .i64 8) (by go_simp)
  have q1 := Hm5.out.cell (a := ⟨w.heap.size, 1, none⟩) (v := .int .i64 a) (by go_simp)
  have q2 := Hm5.out.cell (a := ⟨w.heap.size, 2, none⟩) (v := .int .i64 b) (by go_simp)
  have q3 := Hm5.out.cell (a := ⟨w.heap.size, 3, none⟩) (v := .int .i64 c) (by go_simp)
  have q4 := Hm5.out.cell (a := ⟨w.heap.size, 4, none⟩) (v := .int .i64 n) (by go_simp)
  clear m5
  go_simp
  refine hK _ _ ((HS.out _).2 Hm5.out) ?_; clear hK K
  refine wpOrd_take rfl (by kernel_rfl) (fun K hK => ?_); go_simp; refine hK _ _ ?_; clear hK K
  refine wpOrd_done ?_
  clear k0 k1 k2 k3 k4 hne
  have hr5 := H.out.1.more Hm5.out
  have hb5 : Below M w w5 := below_more (below_alloc (Below.refl _ _) (Nat.le_of_lt hM) _) (by have := H.out.1.lt; omega) Hm5.out
  have H5 := hid_of' (And.intro hr5 hb5)
  have HD5 := hid_of' (HD.out _ _ H5.out.1.drew)
  clear hr5 hb5 HS HH HD
  cases hh with
  | true =>
    obtain rfl : oth = nx := Ho.out
    clear Ho
    go_wp2_with (fail)
    go_region_with (go_at_call 47; refine HD5.out.mono ?_; rintro e w6 ⟨rfl, r6, b6⟩; have H6 := hid_of' (And.intro r6 (Below.trans (below_drew H5.out.2) b6)); clear r6 b6)
    clear HD5
    have hCh := (spec_choice w6 M B rv cv _ q _ L H6.out.1 (H.out.2.1.below (Below.mono H6.out.2 H.out.2.2.1)) H.out.2.2.1)
    rw [Hd.out] at hCh
    have HCh := hid_of' hCh
    clear hCh
    by_cases d0 : d = 0
    · subst d0
      go_wp2_with (fail)
      refine HCh.out.mono ?_
      rintro e w7 ⟨rfl, b7, sc', r7, s7⟩
      have H7 := hid_of' (And.intro r7 (And.intro s7 (Below.trans H6.out.2 b7)))
      clear r7 s7 b7 HCh
      go_wp2
      go_end0
      refine HP.out _ _ ⟨rfl, H7.out.2.2, sc', H7.out.2.1, ?_⟩
      rw [if_pos trivial, if_pos trivial]
      exact H7.out.1.fewer x.mo (fun p hp => List.mem_cons_of_mem _ hp)
    · have d0' : (d == 0) = false := by simp [d0]
      go_wp2_with (fail)
      refine HCh.out.mono ?_
      rintro e w7 ⟨rfl, b7, sc', r7, s7⟩
      have H7 := hid_of' (And.intro r7 (And.intro s7 (Below.trans H6.out.2 b7)))
      clear r7 s7 b7 HCh
      have HLv := hid_of' (spec_leave w7 M rv cv _ _ _ H7.out.1 H.out.2.2.2.1 H.out.2.2.2.2)
      go_wp2_with (fail)
      refine HLv.out.mono ?_
      rintro e w8 ⟨rfl, r8, b8⟩
      have H8 := hid_of' (And.intro r8 (And.intro (H7.out.2.1.below (Below.mono b8 H.out.2.2.1)) (Below.trans H7.out.2.2 b8)))
      obtain ⟨y8, f8⟩ := r8.next
      dsimp only at y8
      clear r8 b8 HLv
      go_wp2
      go_end0
      refine HP.out _ _ ⟨rfl, below_put H8.out.2.2 _ _, sc', H8.out.2.1.below (Below.mono (below_put (Below.refl _ _) _ _) H.out.2.2.1), ?_⟩
      rw [if_neg d0, if_neg d0]
      exact (H8.out.1.setNext _).fewer x.mo (fun p hp => List.mem_cons_of_mem _ hp)
  | false =>
    obtain rfl : oth = n := Ho.out
    clear Ho
    go_wp2_with (fail)
    go_region_with (go_at_call 47; refine HD5.out.mono ?_; rintro e w6 ⟨rfl, r6, b6⟩; have H6 := hid_of' (And.intro r6 (Below.trans (below_drew H5.out.2) b6)); clear r6 b6)
    clear HD5
    have hCh := (spec_choice w6 M B rv cv _ q _ L H6.out.1 (H.out.2.1.below (Below.mono H6.out.2 H.out.2.2.1)) H.out.2.2.1)
    rw [Hd.out] at hCh
    have HCh := hid_of' hCh
    clear hCh
    by_cases d0 : d = 0
    · subst d0
      go_wp2_with (fail)
      refine HCh.out.mono ?_
      rintro e w7 ⟨rfl, b7, sc', r7, s7⟩
      have H7 := hid_of' (And.intro r7 (And.intro s7 (Below.trans H6.out.2 b7)))
      clear r7 s7 b7 HCh
      go_wp2
      go_end0
      refine HP.out _ _ ⟨rfl, H7.out.2.2, sc', H7.out.2.1, ?_⟩
      rw [if_pos trivial, if_pos trivial]
      exact H7.out.1.fewer x.mo (fun p hp => List.mem_cons_of_mem _ hp)
    · have d0' : (d == 0) = false := by simp [d0]
      go_wp2_with (fail)
      refine HCh.out.mono ?_
      rintro e w7 ⟨rfl, b7, sc', r7, s7⟩
      have H7 := hid_of' (And.intro r7 (And.intro s7 (Below.trans H6.out.2 b7)))
      clear r7 s7 b7 HCh
      have HLv := hid_of' (spec_leave w7 M rv cv _ _ _ H7.out.1 H.out.2.2.2.1 H.out.2.2.2.2)
      go_wp2_with (fail)
      refine HLv.out.mono ?_
      rintro e w8 ⟨rfl, r8, b8⟩
      have H8 := hid_of' (And.intro r8 (And.intro (H7.out.2.1.below (Below.mono b8 H.out.2.2.1)) (Below.trans H7.out.2.2 b8)))
      obtain ⟨y8, f8⟩ := r8.next
      dsimp only at y8
      clear r8 b8 HLv
      go_wp2
      go_end0
      refine HP.out _ _ ⟨rfl, below_put H8.out.2.2 _ _, sc', H8.out.2.1.below (Below.mono (below_put (Below.refl _ _) _ _) H.out.2.2.1), ?_⟩
      rw [if_neg d0, if_neg d0]
      exact (H8.out.1.setNext _).fewer x.mo (fun p hp => List.mem_cons_of_mem _ hp)
end Go.Proofs.Ytbfhchhggkpbdaa

/-
  One step of the runner: the instruction that the machine begins, done as the script says, and taken back where it is time.
-/
namespace Go.Proofs.Ytbfhchhggkpbdaa
open Go.RowKit
set_option linter.unusedVariables false
set_option linter.unusedSimpArgs false
set_option maxRecDepth 8000

/-- Whether it is taken back behind a step. -/
def endsS (op : Int) (x : Ms) (q : Tl) : Bool := q.ahead && decide (op = 12 ∨ op = 9 ∨ x.steps = q.til)
def backX (b : Bool) (x : Ms) (q : Tl) : Ms := if b = true then { x with r := q.br, wd := q.bw, next := q.bn } else x
def backQ (b : Bool) (q : Tl) : Tl := if b = true then { q with puts := q.bp, ahead := false } else q
def backSe (b : Bool) (se : List Se) : List Se := if b = true then se ++ [⟨4, 0, 0⟩] else se

/-- What an action leaves. -/
structure Acts (F : Nat) (op a b c n : Int) (w : World) (M B : Nat) (rv cv : Value) (x1 : Ms) (q : Tl) (se1 : List Se) (Good : World → Ms → Tl → List Se → Prop) : Prop where
  out : ∀ w1 mo, RunS w1 M rv cv { x1 with mo := mo } q se1 → Below M w w1 → Calls Try.prog F #[.pointer (some ⟨M, 0, none⟩), .agg #[.int .i64 op, .int .i64 a, .int .i64 b, .int .i64 c, .int .i64 n]] w1 fun e w' =>
    e = .returned (.tuple #[]) ∧ Below B w1 w' ∧ ∃ x2 q2 se2, Good w' x2 q2 se2 ∧ RunS w' M rv cv { x2 with mo := mo } q2 se2

theorem Acts.to {F : Nat} {op a b c n : Int} {w : World} {M B : Nat} {rv cv : Value} {x1 : Ms} {q : Tl} {se1 : List Se} {Good : World → Ms → Tl → List Se → Prop} (h : Acts F op a b c n w M B rv cv x1 q se1 Good) : Acts F op a b c n w M B rv cv x1 q se1 Good := h

set_option maxHeartbeats 400000 in
theorem spec_step_else (op : Int) (a b c n : Int) (w : World) (M B : Nat) (rv cv : Value) (x x1 : Ms) (q : Tl) (se1 : List Se) (Good : World → Ms → Tl → List Se → Prop) (n3 : ¬ op = 3) (n4 : ¬ op = 4) (n5 : ¬ op = 5) (n6 : ¬ op = 6) (n8 : ¬ op = 8) (n9 : ¬ op = 9) (hB : B ≤ M) (hmo : x1.mo = x.mo) (hMw : M < w.heap.size)
    (hst : ∀ w1 w2 x2 q2 se2, Good w1 x2 q2 se2 → Below M w1 w2 → Good w2 x2 q2 se2) (hlen : ∀ w1 x2 q2 se2, Good w1 x2 q2 se2 → se2.length ≤ 200000)
    (hBg : Calls Try.prog 48 #[.pointer (some ⟨M, 0, none⟩)] w fun e w' => e = .returned (.agg #[.int .i64 op, .int .i64 a, .int .i64 b, .int .i64 c, .int .i64 n]) ∧ RunS w' M rv cv x1 q se1 ∧ Below M w w')
    (hA : Acts 47 op a b c n w M B rv cv x1 q se1 Good) :
    Calls Try.prog 58 #[.pointer (some ⟨M, 0, none⟩)] w fun e w' => e = .returned (.tuple #[]) ∧ Below B w w' ∧ ∃ x2 q2 se2, Good w' x2 q2 se2 ∧ RunS w' M rv cv { backX (endsS op x2 q2) x2 q2 with mo := x.mo } (backQ (endsS op x2 q2) q2) (backSe (endsS op x2 q2) se2) := by
  suffices H0 : ∀ P : Ending → World → Prop, (∀ e w', (e = .returned (.tuple #[]) ∧ Below B w w' ∧ ∃ x2 q2 se2, Good w' x2 q2 se2 ∧ RunS w' M rv cv { backX (endsS op x2 q2) x2 q2 with mo := x.mo } (backQ (endsS op x2 q2) q2) (backSe (endsS op x2 q2) se2)) → P e w') → Calls Try.prog 58 #[.pointer (some ⟨M, 0, none⟩)] w P from H0 _ (fun _ _ h => h)
  intro P hP
  have HP := hid_of' hP
  have H := hid_of' (And.intro hst (And.intro hlen (And.intro hB (And.intro hmo hMw))))
  have HB := hid_of' hBg
  have HA := hid_of' hA
  clear hP hst hlen hB hmo hMw hBg hA
  go_enter Try.func58, Try.ntmps58
  go_wp2_with (fail)
  refine HB.out.mono ?_
  rintro e w1 ⟨rfl, r1, b1⟩
  have H1 := hid_of' (And.intro r1 b1)
  have hM1 := r1.lt
  clear r1 b1 HB
  have HA2 := hid_of' (HA.out.out _ _ (H1.out.1.beside (.cells #[.int .i64 op, .int .i64 a, .int .i64 b, .int .i64 c, .int .i64 n] 34)).drew (below_drew (below_alloc H1.out.2 (Nat.le_of_lt hM1) _)))
  clear HA
  go_wp2_with (fail)
  go_region_with (go_at_call 47; refine HA2.out.mono ?_; rintro e w3 ⟨rfl, b3, x2, q2, se2, g3, r3⟩; have H3 := hid_of' (And.intro g3 (And.intro r3 b3)); clear g3 r3 b3)
  have hb3 : Below B w w3 := Below.trans (Below.mono (below_drew (below_alloc H1.out.2 (Nat.le_of_lt hM1) _)) H.out.2.2.1) H3.out.2.2
  have HB3 := hid_of' hb3
  have ca := H3.out.2.1.ahead.1
  have hbox := H3.out.2.1.left (List.mem_cons_self)
  have z0 := cell_of_box hbox 0 (.int .i64 op) (by simp)
  have z1 := cell_of_box hbox 1 (.int .i64 a) (by simp)
  have z2 := cell_of_box hbox 2 (.int .i64 b) (by simp)
  have z3 := cell_of_box hbox 3 (.int .i64 c) (by simp)
  have z4 := cell_of_box hbox 4 (.int .i64 n) (by simp)
  dsimp only at z0 z1 z2 z3 z4
  clear hbox HA2 hb3
  cases hah : q2.ahead with
  | false =>
    rw [hah] at ca
    have Hah := hid_of' hah
    clear hah
    go_wp2
    go_end0
    refine HP.out _ _ ⟨rfl, HB3.out, x2, q2, se2, H3.out.1, ?_⟩
    have e0 : endsS op x2 q2 = false := by unfold endsS; rw [Hah.out]; rfl
    rw [e0]
    show RunS w3 M rv cv { x2 with mo := x.mo } q2 se2
    rw [← H.out.2.2.2.1]
    exact H3.out.2.1.fewer x1.mo (fun p hp => List.mem_cons_of_mem _ hp)
  | true =>
    rw [hah] at ca
    have Hah := hid_of' hah
    clear hah
    have hE := spec_endsAhead op a b c n w3 M rv cv _ q2 se2 H3.out.2.1
    dsimp only at hE
    obtain ⟨bb, hbb⟩ : ∃ bb, decide ((op : Int) = 12 ∨ (op : Int) = 9 ∨ x2.steps = q2.til) = bb := ⟨_, rfl⟩
    rw [hbb] at hE
    have e0 : endsS op x2 q2 = bb := by unfold endsS; rw [Hah.out, hbb]; rfl
    have He0 := hid_of' e0
    have HE := hid_of' hE
    clear hE e0 hbb
    go_wp2_with (fail)
    refine HE.out.mono ?_
    rintro e w4 ⟨rfl, m4⟩
    have H4 := hid_of' (And.intro (H3.out.2.1.more m4) (And.intro (H.out.1 _ _ _ _ _ H3.out.1 (Below.mono m4 (Nat.le_of_lt H3.out.2.1.lt))) (below_more HB3.out (by have := H3.out.2.1.lt; have := H.out.2.2.1; omega) m4)))
    clear m4 HE
    cases bb with
    | false =>
      go_wp2
      go_end0
      refine HP.out _ _ ⟨rfl, H4.out.2.2, x2, q2, se2, H4.out.2.1, ?_⟩
      rw [He0.out]
      show RunS w4 M rv cv { x2 with mo := x.mo } q2 se2
      rw [← H.out.2.2.2.1]
      exact H4.out.1.fewer x1.mo (fun p hp => List.mem_cons_of_mem _ hp)
    | true =>
      have HT := hid_of' (spec_takeBack w4 M rv cv _ q2 se2 (H.out.2.1 _ _ _ _ H4.out.2.1) H4.out.1)
      go_wp2_with (fail)
      refine HT.out.mono ?_
      rintro e w5 ⟨rfl, r5, b5⟩
      have H5 := hid_of' (And.intro r5 b5)
      clear r5 b5 HT
      go_wp2
      go_end0
      refine HP.out _ _ ⟨rfl, Below.trans H4.out.2.2 (Below.mono H5.out.2 H.out.2.2.1), x2, q2, se2, H.out.1 _ _ _ _ _ H4.out.2.1 H5.out.2, ?_⟩
      rw [He0.out]
      show RunS w5 M rv cv { x2 with r := q2.br, wd := q2.bw, next := q2.bn, mo := x.mo } { q2 with puts := q2.bp, ahead := false } (se2 ++ [⟨4, 0, 0⟩])
      rw [← H.out.2.2.2.1]
      exact H5.out.1.fewer x1.mo (fun p hp => List.mem_cons_of_mem _ hp)

set_option maxHeartbeats 400000 in
theorem spec_step_8 (a b c n : Int) (w : World) (M B : Nat) (rv cv : Value) (x x1 : Ms) (q : Tl) (se1 : List Se) (Good : World → Ms → Tl → List Se → Prop) (hB : B ≤ M) (hmo : x1.mo = x.mo) (hMw : M < w.heap.size)
    (hst : ∀ w1 w2 x2 q2 se2, Good w1 x2 q2 se2 → Below M w1 w2 → Good w2 x2 q2 se2) (hlen : ∀ w1 x2 q2 se2, Good w1 x2 q2 se2 → se2.length ≤ 200000)
    (hBg : Calls Try.prog 48 #[.pointer (some ⟨M, 0, none⟩)] w fun e w' => e = .returned (.agg #[.int .i64 8, .int .i64 a, .int .i64 b, .int .i64 c, .int .i64 n]) ∧ RunS w' M rv cv x1 q se1 ∧ Below M w w')
    (hA : Acts 80 8 a b c n w M B rv cv x1 q se1 Good) :
    Calls Try.prog 58 #[.pointer (some ⟨M, 0, none⟩)] w fun e w' => e = .returned (.tuple #[]) ∧ Below B w w' ∧ ∃ x2 q2 se2, Good w' x2 q2 se2 ∧ RunS w' M rv cv { backX (endsS 8 x2 q2) x2 q2 with mo := x.mo } (backQ (endsS 8 x2 q2) q2) (backSe (endsS 8 x2 q2) se2) := by
  suffices H0 : ∀ P : Ending → World → Prop, (∀ e w', (e = .returned (.tuple #[]) ∧ Below B w w' ∧ ∃ x2 q2 se2, Good w' x2 q2 se2 ∧ RunS w' M rv cv { backX (endsS 8 x2 q2) x2 q2 with mo := x.mo } (backQ (endsS 8 x2 q2) q2) (backSe (endsS 8 x2 q2) se2)) → P e w') → Calls Try.prog 58 #[.pointer (some ⟨M, 0, none⟩)] w P from H0 _ (fun _ _ h => h)
  intro P hP
  have HP := hid_of' hP
  have H := hid_of' (And.intro hst (And.intro hlen (And.intro hB (And.intro hmo hMw))))
  have HB := hid_of' hBg
  have HA := hid_of' hA
  clear hP hst hlen hB hmo hMw hBg hA
  go_enter Try.func58, Try.ntmps58
  go_wp2_with (fail)
  refine HB.out.mono ?_
  rintro e w1 ⟨rfl, r1, b1⟩
  have H1 := hid_of' (And.intro r1 b1)
  have hM1 := r1.lt
  clear r1 b1 HB
  have HA2 := hid_of' (HA.out.out _ _ (H1.out.1.beside (.cells #[.int .i64 8, .int .i64 a, .int .i64 b, .int .i64 c, .int .i64 n] 34)) ((below_alloc H1.out.2 (Nat.le_of_lt hM1) _)))
  clear HA
  go_wp2_with (fail)
  refine HA2.out.mono ?_
  rintro e w3 ⟨rfl, b3, x2, q2, se2, g3, r3⟩
  have H3 := hid_of' (And.intro g3 (And.intro r3 b3))
  clear g3 r3 b3
  have hb3 : Below B w w3 := Below.trans (Below.mono ((below_alloc H1.out.2 (Nat.le_of_lt hM1) _)) H.out.2.2.1) H3.out.2.2
  have HB3 := hid_of' hb3
  have ca := H3.out.2.1.ahead.1
  have hbox := H3.out.2.1.left (List.mem_cons_self)
  have z0 := cell_of_box hbox 0 (.int .i64 8) (by simp)
  have z1 := cell_of_box hbox 1 (.int .i64 a) (by simp)
  have z2 := cell_of_box hbox 2 (.int .i64 b) (by simp)
  have z3 := cell_of_box hbox 3 (.int .i64 c) (by simp)
  have z4 := cell_of_box hbox 4 (.int .i64 n) (by simp)
  dsimp only at z0 z1 z2 z3 z4
  clear hbox HA2 hb3
  cases hah : q2.ahead with
  | false =>
    rw [hah] at ca
    have Hah := hid_of' hah
    clear hah
    go_wp2
    go_end0
    refine HP.out _ _ ⟨rfl, HB3.out, x2, q2, se2, H3.out.1, ?_⟩
    have e0 : endsS 8 x2 q2 = false := by unfold endsS; rw [Hah.out]; rfl
    rw [e0]
    show RunS w3 M rv cv { x2 with mo := x.mo } q2 se2
    rw [← H.out.2.2.2.1]
    exact H3.out.2.1.fewer x1.mo (fun p hp => List.mem_cons_of_mem _ hp)
  | true =>
    rw [hah] at ca
    have Hah := hid_of' hah
    clear hah
    have hE := spec_endsAhead 8 a b c n w3 M rv cv _ q2 se2 H3.out.2.1
    dsimp only at hE
    obtain ⟨bb, hbb⟩ : ∃ bb, decide ((8 : Int) = 12 ∨ (8 : Int) = 9 ∨ x2.steps = q2.til) = bb := ⟨_, rfl⟩
    rw [hbb] at hE
    have e0 : endsS 8 x2 q2 = bb := by unfold endsS; rw [Hah.out, hbb]; rfl
    have He0 := hid_of' e0
    have HE := hid_of' hE
    clear hE e0 hbb
    go_wp2_with (fail)
    refine HE.out.mono ?_
    rintro e w4 ⟨rfl, m4⟩
    have H4 := hid_of' (And.intro (H3.out.2.1.more m4) (And.intro (H.out.1 _ _ _ _ _ H3.out.1 (Below.mono m4 (Nat.le_of_lt H3.out.2.1.lt))) (below_more HB3.out (by have := H3.out.2.1.lt; have := H.out.2.2.1; omega) m4)))
    clear m4 HE
    cases bb with
    | false =>
      go_wp2
      go_end0
      refine HP.out _ _ ⟨rfl, H4.out.2.2, x2, q2, se2, H4.out.2.1, ?_⟩
      rw [He0.out]
      show RunS w4 M rv cv { x2 with mo := x.mo } q2 se2
      rw [← H.out.2.2.2.1]
      exact H4.out.1.fewer x1.mo (fun p hp => List.mem_cons_of_mem _ hp)
    | true =>
      have HT := hid_of' (spec_takeBack w4 M rv cv _ q2 se2 (H.out.2.1 _ _ _ _ H4.out.2.1) H4.out.1)
      go_wp2_with (fail)
      refine HT.out.mono ?_
      rintro e w5 ⟨rfl, r5, b5⟩
      have H5 := hid_of' (And.intro r5 b5)
      clear r5 b5 HT
      go_wp2
      go_end0
      refine HP.out _ _ ⟨rfl, Below.trans H4.out.2.2 (Below.mono H5.out.2 H.out.2.2.1), x2, q2, se2, H.out.1 _ _ _ _ _ H4.out.2.1 H5.out.2, ?_⟩
      rw [He0.out]
      show RunS w5 M rv cv { x2 with r := q2.br, wd := q2.bw, next := q2.bn, mo := x.mo } { q2 with puts := q2.bp, ahead := false } (se2 ++ [⟨4, 0, 0⟩])
      rw [← H.out.2.2.2.1]
      exact H5.out.1.fewer x1.mo (fun p hp => List.mem_cons_of_mem _ hp)

set_option maxHeartbeats 400000 in
theorem spec_step_3 (a b c n : Int) (w : World) (M B : Nat) (rv cv : Value) (x x1 : Ms) (q : Tl) (se1 : List Se) (Good : World → Ms → Tl → List Se → Prop) (hB : B ≤ M) (hmo : x1.mo = x.mo) (hMw : M < w.heap.size)
    (hst : ∀ w1 w2 x2 q2 se2, Good w1 x2 q2 se2 → Below M w1 w2 → Good w2 x2 q2 se2) (hlen : ∀ w1 x2 q2 se2, Good w1 x2 q2 se2 → se2.length ≤ 200000)
    (hBg : Calls Try.prog 48 #[.pointer (some ⟨M, 0, none⟩)] w fun e w' => e = .returned (.agg #[.int .i64 3, .int .i64 a, .int .i64 b, .int .i64 c, .int .i64 n]) ∧ RunS w' M rv cv x1 q se1 ∧ Below M w w')
    (hA : Acts 81 3 a b c n w M B rv cv x1 q se1 Good) :
    Calls Try.prog 58 #[.pointer (some ⟨M, 0, none⟩)] w fun e w' => e = .returned (.tuple #[]) ∧ Below B w w' ∧ ∃ x2 q2 se2, Good w' x2 q2 se2 ∧ RunS w' M rv cv { backX (endsS 3 x2 q2) x2 q2 with mo := x.mo } (backQ (endsS 3 x2 q2) q2) (backSe (endsS 3 x2 q2) se2) := by
  suffices H0 : ∀ P : Ending → World → Prop, (∀ e w', (e = .returned (.tuple #[]) ∧ Below B w w' ∧ ∃ x2 q2 se2, Good w' x2 q2 se2 ∧ RunS w' M rv cv { backX (endsS 3 x2 q2) x2 q2 with mo := x.mo } (backQ (endsS 3 x2 q2) q2) (backSe (endsS 3 x2 q2) se2)) → P e w') → Calls Try.prog 58 #[.pointer (some ⟨M, 0, none⟩)] w P from H0 _ (fun _ _ h => h)
  intro P hP
  have HP := hid_of' hP
  have H := hid_of' (And.intro hst (And.intro hlen (And.intro hB (And.intro hmo hMw))))
  have HB := hid_of' hBg
  have HA := hid_of' hA
  clear hP hst hlen hB hmo hMw hBg hA
  go_enter Try.func58, Try.ntmps58
  go_wp2_with (fail)
  refine HB.out.mono ?_
  rintro e w1 ⟨rfl, r1, b1⟩
  have H1 := hid_of' (And.intro r1 b1)
  have hM1 := r1.lt
  clear r1 b1 HB
  have HA2 := hid_of' (HA.out.out _ _ (H1.out.1.beside (.cells #[.int .i64 3, .int .i64 a, .int .i64 b, .int .i64 c, .int .i64 n] 34)) ((below_alloc H1.out.2 (Nat.le_of_lt hM1) _)))
  clear HA
  go_wp2_with (fail)
  refine HA2.out.mono ?_
  rintro e w3 ⟨rfl, b3, x2, q2, se2, g3, r3⟩
  have H3 := hid_of' (And.intro g3 (And.intro r3 b3))
  clear g3 r3 b3
  have hb3 : Below B w w3 := Below.trans (Below.mono ((below_alloc H1.out.2 (Nat.le_of_lt hM1) _)) H.out.2.2.1) H3.out.2.2
  have HB3 := hid_of' hb3
  have ca := H3.out.2.1.ahead.1
  have hbox := H3.out.2.1.left (List.mem_cons_self)
  have z0 := cell_of_box hbox 0 (.int .i64 3) (by simp)
  have z1 := cell_of_box hbox 1 (.int .i64 a) (by simp)
  have z2 := cell_of_box hbox 2 (.int .i64 b) (by simp)
  have z3 := cell_of_box hbox 3 (.int .i64 c) (by simp)
  have z4 := cell_of_box hbox 4 (.int .i64 n) (by simp)
  dsimp only at z0 z1 z2 z3 z4
  clear hbox HA2 hb3
  cases hah : q2.ahead with
  | false =>
    rw [hah] at ca
    have Hah := hid_of' hah
    clear hah
    go_wp2
    go_end0
    refine HP.out _ _ ⟨rfl, HB3.out, x2, q2, se2, H3.out.1, ?_⟩
    have e0 : endsS 3 x2 q2 = false := by unfold endsS; rw [Hah.out]; rfl
    rw [e0]
    show RunS w3 M rv cv { x2 with mo := x.mo } q2 se2
    rw [← H.out.2.2.2.1]
    exact H3.out.2.1.fewer x1.mo (fun p hp => List.mem_cons_of_mem _ hp)
  | true =>
    rw [hah] at ca
    have Hah := hid_of' hah
    clear hah
    have hE := spec_endsAhead 3 a b c n w3 M rv cv _ q2 se2 H3.out.2.1
    dsimp only at hE
    obtain ⟨bb, hbb⟩ : ∃ bb, decide ((3 : Int) = 12 ∨ (3 : Int) = 9 ∨ x2.steps = q2.til) = bb := ⟨_, rfl⟩
    rw [hbb] at hE
    have e0 : endsS 3 x2 q2 = bb := by unfold endsS; rw [Hah.out, hbb]; rfl
    have He0 := hid_of' e0
    have HE := hid_of' hE
    clear hE e0 hbb
    go_wp2_with (fail)
    refine HE.out.mono ?_
    rintro e w4 ⟨rfl, m4⟩
    have H4 := hid_of' (And.intro (H3.out.2.1.more m4) (And.intro (H.out.1 _ _ _ _ _ H3.out.1 (Below.mono m4 (Nat.le_of_lt H3.out.2.1.lt))) (below_more HB3.out (by have := H3.out.2.1.lt; have := H.out.2.2.1; omega) m4)))
    clear m4 HE
    cases bb with
    | false =>
      go_wp2
      go_end0
      refine HP.out _ _ ⟨rfl, H4.out.2.2, x2, q2, se2, H4.out.2.1, ?_⟩
      rw [He0.out]
      show RunS w4 M rv cv { x2 with mo := x.mo } q2 se2
      rw [← H.out.2.2.2.1]
      exact H4.out.1.fewer x1.mo (fun p hp => List.mem_cons_of_mem _ hp)
    | true =>
      have HT := hid_of' (spec_takeBack w4 M rv cv _ q2 se2 (H.out.2.1 _ _ _ _ H4.out.2.1) H4.out.1)
      go_wp2_with (fail)
      refine HT.out.mono ?_
      rintro e w5 ⟨rfl, r5, b5⟩
      have H5 := hid_of' (And.intro r5 b5)
      clear r5 b5 HT
      go_wp2
      go_end0
      refine HP.out _ _ ⟨rfl, Below.trans H4.out.2.2 (Below.mono H5.out.2 H.out.2.2.1), x2, q2, se2, H.out.1 _ _ _ _ _ H4.out.2.1 H5.out.2, ?_⟩
      rw [He0.out]
      show RunS w5 M rv cv { x2 with r := q2.br, wd := q2.bw, next := q2.bn, mo := x.mo } { q2 with puts := q2.bp, ahead := false } (se2 ++ [⟨4, 0, 0⟩])
      rw [← H.out.2.2.2.1]
      exact H5.out.1.fewer x1.mo (fun p hp => List.mem_cons_of_mem _ hp)

set_option maxHeartbeats 400000 in
theorem spec_step_5 (a b c n : Int) (w : World) (M B : Nat) (rv cv : Value) (x x1 : Ms) (q : Tl) (se1 : List Se) (Good : World → Ms → Tl → List Se → Prop) (hB : B ≤ M) (hmo : x1.mo = x.mo) (hMw : M < w.heap.size)
    (hst : ∀ w1 w2 x2 q2 se2, Good w1 x2 q2 se2 → Below M w1 w2 → Good w2 x2 q2 se2) (hlen : ∀ w1 x2 q2 se2, Good w1 x2 q2 se2 → se2.length ≤ 200000)
    (hBg : Calls Try.prog 48 #[.pointer (some ⟨M, 0, none⟩)] w fun e w' => e = .returned (.agg #[.int .i64 5, .int .i64 a, .int .i64 b, .int .i64 c, .int .i64 n]) ∧ RunS w' M rv cv x1 q se1 ∧ Below M w w')
    (hA : Acts 81 5 a b c n w M B rv cv x1 q se1 Good) :
    Calls Try.prog 58 #[.pointer (some ⟨M, 0, none⟩)] w fun e w' => e = .returned (.tuple #[]) ∧ Below B w w' ∧ ∃ x2 q2 se2, Good w' x2 q2 se2 ∧ RunS w' M rv cv { backX (endsS 5 x2 q2) x2 q2 with mo := x.mo } (backQ (endsS 5 x2 q2) q2) (backSe (endsS 5 x2 q2) se2) := by
  suffices H0 : ∀ P : Ending → World → Prop, (∀ e w', (e = .returned (.tuple #[]) ∧ Below B w w' ∧ ∃ x2 q2 se2, Good w' x2 q2 se2 ∧ RunS w' M rv cv { backX (endsS 5 x2 q2) x2 q2 with mo := x.mo } (backQ (endsS 5 x2 q2) q2) (backSe (endsS 5 x2 q2) se2)) → P e w') → Calls Try.prog 58 #[.pointer (some ⟨M, 0, none⟩)] w P from H0 _ (fun _ _ h => h)
  intro P hP
  have HP := hid_of' hP
  have H := hid_of' (And.intro hst (And.intro hlen (And.intro hB (And.intro hmo hMw))))
  have HB := hid_of' hBg
  have HA := hid_of' hA
  clear hP hst hlen hB hmo hMw hBg hA
  go_enter Try.func58, Try.ntmps58
  go_wp2_with (fail)
  refine HB.out.mono ?_
  rintro e w1 ⟨rfl, r1, b1⟩
  have H1 := hid_of' (And.intro r1 b1)
  have hM1 := r1.lt
  clear r1 b1 HB
  have HA2 := hid_of' (HA.out.out _ _ (H1.out.1.beside (.cells #[.int .i64 5, .int .i64 a, .int .i64 b, .int .i64 c, .int .i64 n] 34)) ((below_alloc H1.out.2 (Nat.le_of_lt hM1) _)))
  clear HA
  go_wp2_with (fail)
  refine HA2.out.mono ?_
  rintro e w3 ⟨rfl, b3, x2, q2, se2, g3, r3⟩
  have H3 := hid_of' (And.intro g3 (And.intro r3 b3))
  clear g3 r3 b3
  have hb3 : Below B w w3 := Below.trans (Below.mono ((below_alloc H1.out.2 (Nat.le_of_lt hM1) _)) H.out.2.2.1) H3.out.2.2
  have HB3 := hid_of' hb3
  have ca := H3.out.2.1.ahead.1
  have hbox := H3.out.2.1.left (List.mem_cons_self)
  have z0 := cell_of_box hbox 0 (.int .i64 5) (by simp)
  have z1 := cell_of_box hbox 1 (.int .i64 a) (by simp)
  have z2 := cell_of_box hbox 2 (.int .i64 b) (by simp)
  have z3 := cell_of_box hbox 3 (.int .i64 c) (by simp)
  have z4 := cell_of_box hbox 4 (.int .i64 n) (by simp)
  dsimp only at z0 z1 z2 z3 z4
  clear hbox HA2 hb3
  cases hah : q2.ahead with
  | false =>
    rw [hah] at ca
    have Hah := hid_of' hah
    clear hah
    go_wp2
    go_end0
    refine HP.out _ _ ⟨rfl, HB3.out, x2, q2, se2, H3.out.1, ?_⟩
    have e0 : endsS 5 x2 q2 = false := by unfold endsS; rw [Hah.out]; rfl
    rw [e0]
    show RunS w3 M rv cv { x2 with mo := x.mo } q2 se2
    rw [← H.out.2.2.2.1]
    exact H3.out.2.1.fewer x1.mo (fun p hp => List.mem_cons_of_mem _ hp)
  | true =>
    rw [hah] at ca
    have Hah := hid_of' hah
    clear hah
    have hE := spec_endsAhead 5 a b c n w3 M rv cv _ q2 se2 H3.out.2.1
    dsimp only at hE
    obtain ⟨bb, hbb⟩ : ∃ bb, decide ((5 : Int) = 12 ∨ (5 : Int) = 9 ∨ x2.steps = q2.til) = bb := ⟨_, rfl⟩
    rw [hbb] at hE
    have e0 : endsS 5 x2 q2 = bb := by unfold endsS; rw [Hah.out, hbb]; rfl
    have He0 := hid_of' e0
    have HE := hid_of' hE
    clear hE e0 hbb
    go_wp2_with (fail)
    refine HE.out.mono ?_
    rintro e w4 ⟨rfl, m4⟩
    have H4 := hid_of' (And.intro (H3.out.2.1.more m4) (And.intro (H.out.1 _ _ _ _ _ H3.out.1 (Below.mono m4 (Nat.le_of_lt H3.out.2.1.lt))) (below_more HB3.out (by have := H3.out.2.1.lt; have := H.out.2.2.1; omega) m4)))
    clear m4 HE
    cases bb with
    | false =>
      go_wp2
      go_end0
      refine HP.out _ _ ⟨rfl, H4.out.2.2, x2, q2, se2, H4.out.2.1, ?_⟩
      rw [He0.out]
      show RunS w4 M rv cv { x2 with mo := x.mo } q2 se2
      rw [← H.out.2.2.2.1]
      exact H4.out.1.fewer x1.mo (fun p hp => List.mem_cons_of_mem _ hp)
    | true =>
      have HT := hid_of' (spec_takeBack w4 M rv cv _ q2 se2 (H.out.2.1 _ _ _ _ H4.out.2.1) H4.out.1)
      go_wp2_with (fail)
      refine HT.out.mono ?_
      rintro e w5 ⟨rfl, r5, b5⟩
      have H5 := hid_of' (And.intro r5 b5)
      clear r5 b5 HT
      go_wp2
      go_end0
      refine HP.out _ _ ⟨rfl, Below.trans H4.out.2.2 (Below.mono H5.out.2 H.out.2.2.1), x2, q2, se2, H.out.1 _ _ _ _ _ H4.out.2.1 H5.out.2, ?_⟩
      rw [He0.out]
      show RunS w5 M rv cv { x2 with r := q2.br, wd := q2.bw, next := q2.bn, mo := x.mo } { q2 with puts := q2.bp, ahead := false } (se2 ++ [⟨4, 0, 0⟩])
      rw [← H.out.2.2.2.1]
      exact H5.out.1.fewer x1.mo (fun p hp => List.mem_cons_of_mem _ hp)

set_option maxHeartbeats 400000 in
theorem spec_step_4 (a b c n : Int) (w : World) (M B : Nat) (rv cv : Value) (x x1 : Ms) (q : Tl) (se1 : List Se) (Good : World → Ms → Tl → List Se → Prop) (hB : B ≤ M) (hmo : x1.mo = x.mo) (hMw : M < w.heap.size)
    (hst : ∀ w1 w2 x2 q2 se2, Good w1 x2 q2 se2 → Below M w1 w2 → Good w2 x2 q2 se2) (hlen : ∀ w1 x2 q2 se2, Good w1 x2 q2 se2 → se2.length ≤ 200000)
    (hBg : Calls Try.prog 48 #[.pointer (some ⟨M, 0, none⟩)] w fun e w' => e = .returned (.agg #[.int .i64 4, .int .i64 a, .int .i64 b, .int .i64 c, .int .i64 n]) ∧ RunS w' M rv cv x1 q se1 ∧ Below M w w')
    (hA : Acts 82 4 a b c n w M B rv cv x1 q se1 Good) :
    Calls Try.prog 58 #[.pointer (some ⟨M, 0, none⟩)] w fun e w' => e = .returned (.tuple #[]) ∧ Below B w w' ∧ ∃ x2 q2 se2, Good w' x2 q2 se2 ∧ RunS w' M rv cv { backX (endsS 4 x2 q2) x2 q2 with mo := x.mo } (backQ (endsS 4 x2 q2) q2) (backSe (endsS 4 x2 q2) se2) := by
  suffices H0 : ∀ P : Ending → World → Prop, (∀ e w', (e = .returned (.tuple #[]) ∧ Below B w w' ∧ ∃ x2 q2 se2, Good w' x2 q2 se2 ∧ RunS w' M rv cv { backX (endsS 4 x2 q2) x2 q2 with mo := x.mo } (backQ (endsS 4 x2 q2) q2) (backSe (endsS 4 x2 q2) se2)) → P e w') → Calls Try.prog 58 #[.pointer (some ⟨M, 0, none⟩)] w P from H0 _ (fun _ _ h => h)
  intro P hP
  have HP := hid_of' hP
  have H := hid_of' (And.intro hst (And.intro hlen (And.intro hB (And.intro hmo hMw))))
  have HB := hid_of' hBg
  have HA := hid_of' hA
  clear hP hst hlen hB hmo hMw hBg hA
  go_enter Try.func58, Try.ntmps58
  go_wp2_with (fail)
  refine HB.out.mono ?_
  rintro e w1 ⟨rfl, r1, b1⟩
  have H1 := hid_of' (And.intro r1 b1)
  have hM1 := r1.lt
  clear r1 b1 HB
  have HA2 := hid_of' (HA.out.out _ _ (H1.out.1.beside (.cells #[.int .i64 4, .int .i64 a, .int .i64 b, .int .i64 c, .int .i64 n] 34)) ((below_alloc H1.out.2 (Nat.le_of_lt hM1) _)))
  clear HA
  go_wp2_with (fail)
  refine HA2.out.mono ?_
  rintro e w3 ⟨rfl, b3, x2, q2, se2, g3, r3⟩
  have H3 := hid_of' (And.intro g3 (And.intro r3 b3))
  clear g3 r3 b3
  have hb3 : Below B w w3 := Below.trans (Below.mono ((below_alloc H1.out.2 (Nat.le_of_lt hM1) _)) H.out.2.2.1) H3.out.2.2
  have HB3 := hid_of' hb3
  have ca := H3.out.2.1.ahead.1
  have hbox := H3.out.2.1.left (List.mem_cons_self)
  have z0 := cell_of_box hbox 0 (.int .i64 4) (by simp)
  have z1 := cell_of_box hbox 1 (.int .i64 a) (by simp)
  have z2 := cell_of_box hbox 2 (.int .i64 b) (by simp)
  have z3 := cell_of_box hbox 3 (.int .i64 c) (by simp)
  have z4 := cell_of_box hbox 4 (.int .i64 n) (by simp)
  dsimp only at z0 z1 z2 z3 z4
  clear hbox HA2 hb3
  cases hah : q2.ahead with
  | false =>
    rw [hah] at ca
    have Hah := hid_of' hah
    clear hah
    go_wp2
    go_end0
    refine HP.out _ _ ⟨rfl, HB3.out, x2, q2, se2, H3.out.1, ?_⟩
    have e0 : endsS 4 x2 q2 = false := by unfold endsS; rw [Hah.out]; rfl
    rw [e0]
    show RunS w3 M rv cv { x2 with mo := x.mo } q2 se2
    rw [← H.out.2.2.2.1]
    exact H3.out.2.1.fewer x1.mo (fun p hp => List.mem_cons_of_mem _ hp)
  | true =>
    rw [hah] at ca
    have Hah := hid_of' hah
    clear hah
    have hE := spec_endsAhead 4 a b c n w3 M rv cv _ q2 se2 H3.out.2.1
    dsimp only at hE
    obtain ⟨bb, hbb⟩ : ∃ bb, decide ((4 : Int) = 12 ∨ (4 : Int) = 9 ∨ x2.steps = q2.til) = bb := ⟨_, rfl⟩
    rw [hbb] at hE
    have e0 : endsS 4 x2 q2 = bb := by unfold endsS; rw [Hah.out, hbb]; rfl
    have He0 := hid_of' e0
    have HE := hid_of' hE
    clear hE e0 hbb
    go_wp2_with (fail)
    refine HE.out.mono ?_
    rintro e w4 ⟨rfl, m4⟩
    have H4 := hid_of' (And.intro (H3.out.2.1.more m4) (And.intro (H.out.1 _ _ _ _ _ H3.out.1 (Below.mono m4 (Nat.le_of_lt H3.out.2.1.lt))) (below_more HB3.out (by have := H3.out.2.1.lt; have := H.out.2.2.1; omega) m4)))
    clear m4 HE
    cases bb with
    | false =>
      go_wp2
      go_end0
      refine HP.out _ _ ⟨rfl, H4.out.2.2, x2, q2, se2, H4.out.2.1, ?_⟩
      rw [He0.out]
      show RunS w4 M rv cv { x2 with mo := x.mo } q2 se2
      rw [← H.out.2.2.2.1]
      exact H4.out.1.fewer x1.mo (fun p hp => List.mem_cons_of_mem _ hp)
    | true =>
      have HT := hid_of' (spec_takeBack w4 M rv cv _ q2 se2 (H.out.2.1 _ _ _ _ H4.out.2.1) H4.out.1)
      go_wp2_with (fail)
      refine HT.out.mono ?_
      rintro e w5 ⟨rfl, r5, b5⟩
      have H5 := hid_of' (And.intro r5 b5)
      clear r5 b5 HT
      go_wp2
      go_end0
      refine HP.out _ _ ⟨rfl, Below.trans H4.out.2.2 (Below.mono H5.out.2 H.out.2.2.1), x2, q2, se2, H.out.1 _ _ _ _ _ H4.out.2.1 H5.out.2, ?_⟩
      rw [He0.out]
      show RunS w5 M rv cv { x2 with r := q2.br, wd := q2.bw, next := q2.bn, mo := x.mo } { q2 with puts := q2.bp, ahead := false } (se2 ++ [⟨4, 0, 0⟩])
      rw [← H.out.2.2.2.1]
      exact H5.out.1.fewer x1.mo (fun p hp => List.mem_cons_of_mem _ hp)

set_option maxHeartbeats 400000 in
theorem spec_step_6 (a b c n : Int) (w : World) (M B : Nat) (rv cv : Value) (x x1 : Ms) (q : Tl) (se1 : List Se) (Good : World → Ms → Tl → List Se → Prop) (hB : B ≤ M) (hmo : x1.mo = x.mo) (hMw : M < w.heap.size)
    (hst : ∀ w1 w2 x2 q2 se2, Good w1 x2 q2 se2 → Below M w1 w2 → Good w2 x2 q2 se2) (hlen : ∀ w1 x2 q2 se2, Good w1 x2 q2 se2 → se2.length ≤ 200000)
    (hBg : Calls Try.prog 48 #[.pointer (some ⟨M, 0, none⟩)] w fun e w' => e = .returned (.agg #[.int .i64 6, .int .i64 a, .int .i64 b, .int .i64 c, .int .i64 n]) ∧ RunS w' M rv cv x1 q se1 ∧ Below M w w')
    (hA : Acts 82 6 a b c n w M B rv cv x1 q se1 Good) :
    Calls Try.prog 58 #[.pointer (some ⟨M, 0, none⟩)] w fun e w' => e = .returned (.tuple #[]) ∧ Below B w w' ∧ ∃ x2 q2 se2, Good w' x2 q2 se2 ∧ RunS w' M rv cv { backX (endsS 6 x2 q2) x2 q2 with mo := x.mo } (backQ (endsS 6 x2 q2) q2) (backSe (endsS 6 x2 q2) se2) := by
  suffices H0 : ∀ P : Ending → World → Prop, (∀ e w', (e = .returned (.tuple #[]) ∧ Below B w w' ∧ ∃ x2 q2 se2, Good w' x2 q2 se2 ∧ RunS w' M rv cv { backX (endsS 6 x2 q2) x2 q2 with mo := x.mo } (backQ (endsS 6 x2 q2) q2) (backSe (endsS 6 x2 q2) se2)) → P e w') → Calls Try.prog 58 #[.pointer (some ⟨M, 0, none⟩)] w P from H0 _ (fun _ _ h => h)
  intro P hP
  have HP := hid_of' hP
  have H := hid_of' (And.intro hst (And.intro hlen (And.intro hB (And.intro hmo hMw))))
  have HB := hid_of' hBg
  have HA := hid_of' hA
  clear hP hst hlen hB hmo hMw hBg hA
  go_enter Try.func58, Try.ntmps58
  go_wp2_with (fail)
  refine HB.out.mono ?_
  rintro e w1 ⟨rfl, r1, b1⟩
  have H1 := hid_of' (And.intro r1 b1)
  have hM1 := r1.lt
  clear r1 b1 HB
  have HA2 := hid_of' (HA.out.out _ _ (H1.out.1.beside (.cells #[.int .i64 6, .int .i64 a, .int .i64 b, .int .i64 c, .int .i64 n] 34)) ((below_alloc H1.out.2 (Nat.le_of_lt hM1) _)))
  clear HA
  go_wp2_with (fail)
  refine HA2.out.mono ?_
  rintro e w3 ⟨rfl, b3, x2, q2, se2, g3, r3⟩
  have H3 := hid_of' (And.intro g3 (And.intro r3 b3))
  clear g3 r3 b3
  have hb3 : Below B w w3 := Below.trans (Below.mono ((below_alloc H1.out.2 (Nat.le_of_lt hM1) _)) H.out.2.2.1) H3.out.2.2
  have HB3 := hid_of' hb3
  have ca := H3.out.2.1.ahead.1
  have hbox := H3.out.2.1.left (List.mem_cons_self)
  have z0 := cell_of_box hbox 0 (.int .i64 6) (by simp)
  have z1 := cell_of_box hbox 1 (.int .i64 a) (by simp)
  have z2 := cell_of_box hbox 2 (.int .i64 b) (by simp)
  have z3 := cell_of_box hbox 3 (.int .i64 c) (by simp)
  have z4 := cell_of_box hbox 4 (.int .i64 n) (by simp)
  dsimp only at z0 z1 z2 z3 z4
  clear hbox HA2 hb3
  cases hah : q2.ahead with
  | false =>
    rw [hah] at ca
    have Hah := hid_of' hah
    clear hah
    go_wp2
    go_end0
    refine HP.out _ _ ⟨rfl, HB3.out, x2, q2, se2, H3.out.1, ?_⟩
    have e0 : endsS 6 x2 q2 = false := by unfold endsS; rw [Hah.out]; rfl
    rw [e0]
    show RunS w3 M rv cv { x2 with mo := x.mo } q2 se2
    rw [← H.out.2.2.2.1]
    exact H3.out.2.1.fewer x1.mo (fun p hp => List.mem_cons_of_mem _ hp)
  | true =>
    rw [hah] at ca
    have Hah := hid_of' hah
    clear hah
    have hE := spec_endsAhead 6 a b c n w3 M rv cv _ q2 se2 H3.out.2.1
    dsimp only at hE
    obtain ⟨bb, hbb⟩ : ∃ bb, decide ((6 : Int) = 12 ∨ (6 : Int) = 9 ∨ x2.steps = q2.til) = bb := ⟨_, rfl⟩
    rw [hbb] at hE
    have e0 : endsS 6 x2 q2 = bb := by unfold endsS; rw [Hah.out, hbb]; rfl
    have He0 := hid_of' e0
    have HE := hid_of' hE
    clear hE e0 hbb
    go_wp2_with (fail)
    refine HE.out.mono ?_
    rintro e w4 ⟨rfl, m4⟩
    have H4 := hid_of' (And.intro (H3.out.2.1.more m4) (And.intro (H.out.1 _ _ _ _ _ H3.out.1 (Below.mono m4 (Nat.le_of_lt H3.out.2.1.lt))) (below_more HB3.out (by have := H3.out.2.1.lt; have := H.out.2.2.1; omega) m4)))
    clear m4 HE
    cases bb with
    | false =>
      go_wp2
      go_end0
      refine HP.out _ _ ⟨rfl, H4.out.2.2, x2, q2, se2, H4.out.2.1, ?_⟩
      rw [He0.out]
      show RunS w4 M rv cv { x2 with mo := x.mo } q2 se2
      rw [← H.out.2.2.2.1]
      exact H4.out.1.fewer x1.mo (fun p hp => List.mem_cons_of_mem _ hp)
    | true =>
      have HT := hid_of' (spec_takeBack w4 M rv cv _ q2 se2 (H.out.2.1 _ _ _ _ H4.out.2.1) H4.out.1)
      go_wp2_with (fail)
      refine HT.out.mono ?_
      rintro e w5 ⟨rfl, r5, b5⟩
      have H5 := hid_of' (And.intro r5 b5)
      clear r5 b5 HT
      go_wp2
      go_end0
      refine HP.out _ _ ⟨rfl, Below.trans H4.out.2.2 (Below.mono H5.out.2 H.out.2.2.1), x2, q2, se2, H.out.1 _ _ _ _ _ H4.out.2.1 H5.out.2, ?_⟩
      rw [He0.out]
      show RunS w5 M rv cv { x2 with r := q2.br, wd := q2.bw, next := q2.bn, mo := x.mo } { q2 with puts := q2.bp, ahead := false } (se2 ++ [⟨4, 0, 0⟩])
      rw [← H.out.2.2.2.1]
      exact H5.out.1.fewer x1.mo (fun p hp => List.mem_cons_of_mem _ hp)

set_option maxHeartbeats 400000 in
theorem spec_step_9 (a b c n : Int) (w : World) (M B : Nat) (rv cv : Value) (x x1 : Ms) (q : Tl) (se1 : List Se) (Good : World → Ms → Tl → List Se → Prop) (hB : B ≤ M) (hmo : x1.mo = x.mo) (hMw : M < w.heap.size)
    (hst : ∀ w1 w2 x2 q2 se2, Good w1 x2 q2 se2 → Below M w1 w2 → Good w2 x2 q2 se2) (hlen : ∀ w1 x2 q2 se2, Good w1 x2 q2 se2 → se2.length ≤ 200000)
    (hBg : Calls Try.prog 48 #[.pointer (some ⟨M, 0, none⟩)] w fun e w' => e = .returned (.agg #[.int .i64 9, .int .i64 a, .int .i64 b, .int .i64 c, .int .i64 n]) ∧ RunS w' M rv cv x1 q se1 ∧ Below M w w')
    (hA : Acts 83 9 a b c n w M B rv cv x1 q se1 Good) :
    Calls Try.prog 58 #[.pointer (some ⟨M, 0, none⟩)] w fun e w' => e = .returned (.tuple #[]) ∧ Below B w w' ∧ ∃ x2 q2 se2, Good w' x2 q2 se2 ∧ RunS w' M rv cv { backX (endsS 9 x2 q2) x2 q2 with mo := x.mo } (backQ (endsS 9 x2 q2) q2) (backSe (endsS 9 x2 q2) se2) := by
  suffices H0 : ∀ P : Ending → World → Prop, (∀ e w', (e = .returned (.tuple #[]) ∧ Below B w w' ∧ ∃ x2 q2 se2, Good w' x2 q2 se2 ∧ RunS w' M rv cv { backX (endsS 9 x2 q2) x2 q2 with mo := x.mo } (backQ (endsS 9 x2 q2) q2) (backSe (endsS 9 x2 q2) se2)) → P e w') → Calls Try.prog 58 #[.pointer (some ⟨M, 0, none⟩)] w P from H0 _ (fun _ _ h => h)
  intro P hP
  have HP := hid_of' hP
  have H := hid_of' (And.intro hst (And.intro hlen (And.intro hB (And.intro hmo hMw))))
  have HB := hid_of' hBg
  have HA := hid_of' hA
  clear hP hst hlen hB hmo hMw hBg hA
  go_enter Try.func58, Try.ntmps58
  go_wp2_with (fail)
  refine HB.out.mono ?_
  rintro e w1 ⟨rfl, r1, b1⟩
  have H1 := hid_of' (And.intro r1 b1)
  have hM1 := r1.lt
  clear r1 b1 HB
  have HA2 := hid_of' (HA.out.out _ _ (H1.out.1.beside (.cells #[.int .i64 9, .int .i64 a, .int .i64 b, .int .i64 c, .int .i64 n] 34)) ((below_alloc H1.out.2 (Nat.le_of_lt hM1) _)))
  clear HA
  go_wp2_with (fail)
  refine HA2.out.mono ?_
  rintro e w3 ⟨rfl, b3, x2, q2, se2, g3, r3⟩
  have H3 := hid_of' (And.intro g3 (And.intro r3 b3))
  clear g3 r3 b3
  have hb3 : Below B w w3 := Below.trans (Below.mono ((below_alloc H1.out.2 (Nat.le_of_lt hM1) _)) H.out.2.2.1) H3.out.2.2
  have HB3 := hid_of' hb3
  have ca := H3.out.2.1.ahead.1
  have hbox := H3.out.2.1.left (List.mem_cons_self)
  have z0 := cell_of_box hbox 0 (.int .i64 9) (by simp)
  have z1 := cell_of_box hbox 1 (.int .i64 a) (by simp)
  have z2 := cell_of_box hbox 2 (.int .i64 b) (by simp)
  have z3 := cell_of_box hbox 3 (.int .i64 c) (by simp)
  have z4 := cell_of_box hbox 4 (.int .i64 n) (by simp)
  dsimp only at z0 z1 z2 z3 z4
  clear hbox HA2 hb3
  cases hah : q2.ahead with
  | false =>
    rw [hah] at ca
    have Hah := hid_of' hah
    clear hah
    go_wp2
    go_end0
    refine HP.out _ _ ⟨rfl, HB3.out, x2, q2, se2, H3.out.1, ?_⟩
    have e0 : endsS 9 x2 q2 = false := by unfold endsS; rw [Hah.out]; rfl
    rw [e0]
    show RunS w3 M rv cv { x2 with mo := x.mo } q2 se2
    rw [← H.out.2.2.2.1]
    exact H3.out.2.1.fewer x1.mo (fun p hp => List.mem_cons_of_mem _ hp)
  | true =>
    rw [hah] at ca
    have Hah := hid_of' hah
    clear hah
    have hE := spec_endsAhead 9 a b c n w3 M rv cv _ q2 se2 H3.out.2.1
    dsimp only at hE
    obtain ⟨bb, hbb⟩ : ∃ bb, decide ((9 : Int) = 12 ∨ (9 : Int) = 9 ∨ x2.steps = q2.til) = bb := ⟨_, rfl⟩
    rw [hbb] at hE
    have e0 : endsS 9 x2 q2 = bb := by unfold endsS; rw [Hah.out, hbb]; rfl
    have He0 := hid_of' e0
    have HE := hid_of' hE
    clear hE e0 hbb
    go_wp2_with (fail)
    refine HE.out.mono ?_
    rintro e w4 ⟨rfl, m4⟩
    have H4 := hid_of' (And.intro (H3.out.2.1.more m4) (And.intro (H.out.1 _ _ _ _ _ H3.out.1 (Below.mono m4 (Nat.le_of_lt H3.out.2.1.lt))) (below_more HB3.out (by have := H3.out.2.1.lt; have := H.out.2.2.1; omega) m4)))
    clear m4 HE
    cases bb with
    | false =>
      go_wp2
      go_end0
      refine HP.out _ _ ⟨rfl, H4.out.2.2, x2, q2, se2, H4.out.2.1, ?_⟩
      rw [He0.out]
      show RunS w4 M rv cv { x2 with mo := x.mo } q2 se2
      rw [← H.out.2.2.2.1]
      exact H4.out.1.fewer x1.mo (fun p hp => List.mem_cons_of_mem _ hp)
    | true =>
      have HT := hid_of' (spec_takeBack w4 M rv cv _ q2 se2 (H.out.2.1 _ _ _ _ H4.out.2.1) H4.out.1)
      go_wp2_with (fail)
      refine HT.out.mono ?_
      rintro e w5 ⟨rfl, r5, b5⟩
      have H5 := hid_of' (And.intro r5 b5)
      clear r5 b5 HT
      go_wp2
      go_end0
      refine HP.out _ _ ⟨rfl, Below.trans H4.out.2.2 (Below.mono H5.out.2 H.out.2.2.1), x2, q2, se2, H.out.1 _ _ _ _ _ H4.out.2.1 H5.out.2, ?_⟩
      rw [He0.out]
      show RunS w5 M rv cv { x2 with r := q2.br, wd := q2.bw, next := q2.bn, mo := x.mo } { q2 with puts := q2.bp, ahead := false } (se2 ++ [⟨4, 0, 0⟩])
      rw [← H.out.2.2.2.1]
      exact H5.out.1.fewer x1.mo (fun p hp => List.mem_cons_of_mem _ hp)

end Go.Proofs.Ytbfhchhggkpbdaa
