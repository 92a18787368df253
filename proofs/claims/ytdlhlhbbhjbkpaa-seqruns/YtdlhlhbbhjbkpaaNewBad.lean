/-
  What package seq's New comes to.
-/
import Derived.Test.YtdlhlhbbhjbkpaaNewAux
namespace Go.Proofs.Ytdlhlhbbhjbkpaa
open Go.RowKit
set_option linter.unusedVariables false
set_option linter.unusedSimpArgs false
set_option maxRecDepth 8000

theorem heap_alloc2_last (w : World) (a b : Obj) : ((w.alloc a).alloc b).heap[w.heap.size + 1]? = some b := by
  have := heap_alloc_last (w.alloc a) b
  rwa [show (w.alloc a).heap.size = w.heap.size + 1 from by simp] at this
theorem size_alloc2 (w : World) (a b : Obj) : w.heap.size + 1 < ((w.alloc a).alloc b).heap.size := by simp

theorem zrow : ∃ z : Array Value, (∀ w, (zeroValue 70).run Try.prog w = .ok (.agg z) w) ∧ (∀ w, (Instr.build 70 #[]).run Try.prog w = .ok (.agg z) w) ∧ MC z (.slice none 0 0) (.slice none 0 0) (ms0 0) ∧ (Try.prog.info? 70).map (·.size) = some 411 := by
  obtain ⟨h1, h2⟩ := zero_of_info info70
  exact ⟨_, h1, fun w => run_build w 70 #[] _ (by simpa using built70_none), rowOf_mc _ _ _, h2⟩

set_option maxHeartbeats 1000000 in
theorem seq_new_form (p : Prg) (l : Loc) (ma : Option Addr) (ml mc mb mo : Nat) (A : Nat → Option Addr) (L C : Nat → Nat) (fuel : Int) (w : World) (h : PIn w p l) (hma : 0 < ml → ma = some ⟨mb, mo, none⟩) (hm : ListsAt w mb mo ml A L C) (hbad : ¬ (p.Ok 8000 10 ∧ FitsOk p.rl p.log ml L)) :
    Calls Try.prog 38 #[.agg #[.slice l.ra p.rl l.rc, .slice l.ca p.cl l.cc], .slice ma ml mc, .int .i64 fuel] w fun e w' => ∃ z, MC z (.slice none 0 0) (.slice none 0 0) (ms0 0) ∧ e = .returned (.tuple #[.agg z, .int .i64 2]) ∧ More w w' := by
  obtain ⟨z, z1, z2, z3, z4⟩ := zrow
  have H : Hid (PIn w p l ∧ (0 < ml → ma = some ⟨mb, mo, none⟩) ∧ ListsAt w mb mo ml A L C ∧ ¬ (p.Ok 8000 10 ∧ FitsOk p.rl p.log ml L)) := ⟨h, hma, hm, hbad⟩
  have Hz : Hid (MC z (.slice none 0 0) (.slice none 0 0) (ms0 0) ∧ (Try.prog.info? 70).map (·.size) = some 411 ∧ z.size = 411) := ⟨z3, z4, z3.size⟩
  obtain ⟨P, hP⟩ : ∃ P, P = fun (e : Ending) (w' : World) => ∃ z, MC z (.slice none 0 0) (.slice none 0 0) (ms0 0) ∧ e = .returned (.tuple #[.agg z, .int .i64 2]) ∧ More w w' := ⟨_, rfl⟩
  rw [← hP]
  have HP : Hid (P = fun (e : Ending) (w' : World) => ∃ z, MC z (.slice none 0 0) (.slice none 0 0) (ms0 0) ∧ e = .returned (.tuple #[.agg z, .int .i64 2]) ∧ More w w') := hP
  clear h hma hm z3 z4 hP hbad
  go_enter Try.func38, Try.ntmps38
  go_wp2_with (fail)
  refine (hard_calls p l _ (H.out.1.more (((More.refl _).alloc _ _).alloc _ _))).mono ?_
  rintro e w1 ⟨r1, rfl, h1, m1⟩
  have hrow : w1.heap[w.heap.size + 1]? = some (.cells z 70 (0, 0)) := by rw [m1.block (w.heap.size + 1) (size_alloc2 _ _ _)]; exact heap_alloc2_last _ _ _
  have e0 : w1.cell? ⟨w.heap.size, 0, none⟩ = some (.slice l.ra p.rl l.rc) := m1.cell (by go_simp)
  have e1 : w1.cell? ⟨w.heap.size, 1, none⟩ = some (.slice l.ca p.cl l.cc) := m1.cell (by go_simp)
  have Hm1 : Hid (More w w1) := (((More.refl _).alloc _ _).alloc _ _).trans m1
  clear m1
  cases r1 with
  | false =>
    clear h1
    go_wp2_with (refine wpList_store_row rfl 70 (.tmp 6) (.tmp 20) rfl (w.heap.size + 1) z rfl rfl 70 z hrow (by rw [Hz.out.2.2]; exact Hz.out.2.1) rfl (Hz.out.1.one rfl rfl rfl rfl) ?_; rw [setRow_self _ _ _ _ _ hrow])
    refine bodyPost_ret (results_row_tmp rfl _ _ (w.heap.size + 1) 70 z (0, 0) _ rfl hrow Try.underlying70 rfl (by rw [Hz.out.2.2]; exact Hz.out.2.1)) rfl ?_
    rw [HP.out]
    exact ⟨z, Hz.out.1, rfl, Hm1.out⟩
  | true =>
    have HA : Hid (p.Ok 8000 10) := h1.1 rfl
    clear h1
    go_wp2_with (fail)
    refine (fits_calls l.ra p.rl l.rc l.ca p.cl l.cc ma ml mc l.rb l.ro mb mo p.log p.sec A L C _ H.out.1.hr (H.out.1.regs.more Hm1.out) H.out.2.1 (H.out.2.2.1.more Hm1.out)).mono ?_
    rintro e w2 ⟨r2, rfl, h2, m2⟩
    have Hm2 : Hid (More w w2) := Hm1.out.trans m2
    have hrow2 : w2.heap[w.heap.size + 1]? = some (.cells z 70 (0, 0)) := by rw [m2.block (w.heap.size + 1) (by rcases Nat.lt_or_ge (w.heap.size + 1) w1.heap.size with h' | h'; exact h'; rw [Array.getElem?_eq_none h'] at hrow; cases hrow)]; exact hrow
    clear hrow
    have hrow := hrow2
    clear m2 e0 e1 hrow2
    cases r2 with
    | true => exact absurd ⟨HA.out, h2.1 rfl⟩ H.out.2.2.2
    | false =>
      clear h2
      go_wp2_with (refine wpList_store_row rfl 70 (.tmp 6) (.tmp 20) rfl (w.heap.size + 1) z rfl rfl 70 z hrow (by rw [Hz.out.2.2]; exact Hz.out.2.1) rfl (Hz.out.1.one rfl rfl rfl rfl) ?_; rw [setRow_self _ _ _ _ _ hrow])
      refine bodyPost_ret (results_row_tmp rfl _ _ (w.heap.size + 1) 70 z (0, 0) _ rfl hrow Try.underlying70 rfl (by rw [Hz.out.2.2]; exact Hz.out.2.1)) rfl ?_
      rw [HP.out]
      exact ⟨z, Hz.out.1, rfl, Hm2.out⟩

set_option maxHeartbeats 1000000 in
theorem seq_new_range (p : Prg) (l : Loc) (ma : Option Addr) (ml mc mb mo : Nat) (A : Nat → Option Addr) (L C : Nat → Nat) (fuel : Int) (w : World) (h : PIn w p l) (hma : 0 < ml → ma = some ⟨mb, mo, none⟩) (hm : ListsAt w mb mo ml A L C) (hok : p.Ok 8000 10) (hfit : FitsOk p.rl p.log ml L) (hf : fuel < 0 ∨ 40000 < fuel) :
    Calls Try.prog 38 #[.agg #[.slice l.ra p.rl l.rc, .slice l.ca p.cl l.cc], .slice ma ml mc, .int .i64 fuel] w fun e w' => ∃ z, MC z (.slice none 0 0) (.slice none 0 0) (ms0 0) ∧ e = .returned (.tuple #[.agg z, .int .i64 3]) ∧ More w w' := by
  have hb3 : p.Ok 8000 10 ∧ FitsOk p.rl p.log ml L ∧ (fuel < 0 ∨ 40000 < fuel) := ⟨hok, hfit, hf⟩
  clear hok hfit hf
  obtain ⟨z, z1, z2, z3, z4⟩ := zrow
  have H : Hid (PIn w p l ∧ (0 < ml → ma = some ⟨mb, mo, none⟩) ∧ ListsAt w mb mo ml A L C ∧ (p.Ok 8000 10 ∧ FitsOk p.rl p.log ml L ∧ (fuel < 0 ∨ 40000 < fuel))) := ⟨h, hma, hm, hb3⟩
  have Hz : Hid (MC z (.slice none 0 0) (.slice none 0 0) (ms0 0) ∧ (Try.prog.info? 70).map (·.size) = some 411 ∧ z.size = 411) := ⟨z3, z4, z3.size⟩
  obtain ⟨P, hP⟩ : ∃ P, P = fun (e : Ending) (w' : World) => ∃ z, MC z (.slice none 0 0) (.slice none 0 0) (ms0 0) ∧ e = .returned (.tuple #[.agg z, .int .i64 3]) ∧ More w w' := ⟨_, rfl⟩
  rw [← hP]
  have HP : Hid (P = fun (e : Ending) (w' : World) => ∃ z, MC z (.slice none 0 0) (.slice none 0 0) (ms0 0) ∧ e = .returned (.tuple #[.agg z, .int .i64 3]) ∧ More w w') := hP
  clear h hma hm z3 z4 hP hb3
  go_enter Try.func38, Try.ntmps38
  go_wp2_with (fail)
  refine (hard_calls p l _ (H.out.1.more (((More.refl _).alloc _ _).alloc _ _))).mono ?_
  rintro e w1 ⟨r1, rfl, h1, m1⟩
  have hrow : w1.heap[w.heap.size + 1]? = some (.cells z 70 (0, 0)) := by rw [m1.block (w.heap.size + 1) (size_alloc2 _ _ _)]; exact heap_alloc2_last _ _ _
  have e0 : w1.cell? ⟨w.heap.size, 0, none⟩ = some (.slice l.ra p.rl l.rc) := m1.cell (by go_simp)
  have e1 : w1.cell? ⟨w.heap.size, 1, none⟩ = some (.slice l.ca p.cl l.cc) := m1.cell (by go_simp)
  have Hm1 : Hid (More w w1) := (((More.refl _).alloc _ _).alloc _ _).trans m1
  clear m1
  obtain rfl : r1 = true := h1.2 H.out.2.2.2.1
  clear h1
  go_wp2_with (fail)
  refine (fits_calls l.ra p.rl l.rc l.ca p.cl l.cc ma ml mc l.rb l.ro mb mo p.log p.sec A L C _ H.out.1.hr (H.out.1.regs.more Hm1.out) H.out.2.1 (H.out.2.2.1.more Hm1.out)).mono ?_
  rintro e w2 ⟨r2, rfl, h2, m2⟩
  have Hm2 : Hid (More w w2) := Hm1.out.trans m2
  have hrow2 : w2.heap[w.heap.size + 1]? = some (.cells z 70 (0, 0)) := by rw [m2.block (w.heap.size + 1) (by rcases Nat.lt_or_ge (w.heap.size + 1) w1.heap.size with h' | h'; exact h'; rw [Array.getElem?_eq_none h'] at hrow; cases hrow)]; exact hrow
  clear hrow
  have hrow := hrow2
  obtain rfl : r2 = true := h2.2 H.out.2.2.2.2.1
  clear m2 e0 e1 hrow2 h2
  by_cases hf : fuel < 0
  · go_wp2_with (refine wpList_store_row rfl 70 (.tmp 6) (.tmp 27) rfl (w.heap.size + 1) z rfl rfl 70 z hrow (by rw [Hz.out.2.2]; exact Hz.out.2.1) rfl (Hz.out.1.one rfl rfl rfl rfl) ?_; rw [setRow_self _ _ _ _ _ hrow])
    refine bodyPost_ret (results_row_tmp rfl _ _ (w.heap.size + 1) 70 z (0, 0) _ rfl hrow Try.underlying70 rfl (by rw [Hz.out.2.2]; exact Hz.out.2.1)) rfl ?_
    rw [HP.out]
    exact ⟨z, Hz.out.1, rfl, Hm2.out⟩
  · have hf2 : 40000 < fuel := by have := H.out.2.2.2.2.2; omega
    have hf1 : decide (fuel < 0) = false := by simp; omega
    go_wp2_with (refine wpList_store_row rfl 70 (.tmp 6) (.tmp 27) rfl (w.heap.size + 1) z rfl rfl 70 z hrow (by rw [Hz.out.2.2]; exact Hz.out.2.1) rfl (Hz.out.1.one rfl rfl rfl rfl) ?_; rw [setRow_self _ _ _ _ _ hrow])
    refine bodyPost_ret (results_row_tmp rfl _ _ (w.heap.size + 1) 70 z (0, 0) _ rfl hrow Try.underlying70 rfl (by rw [Hz.out.2.2]; exact Hz.out.2.1)) rfl ?_
    rw [HP.out]
    exact ⟨z, Hz.out.1, rfl, Hm2.out⟩

end Go.Proofs.Ytdlhlhbbhjbkpaa
