/-
  The texts NewBad, New, Run, SRun, SRunOk, Open, Fuel, SOpen, RefSame, one behind the other.
-/
import Derived.Test.YtbfhchhggkpbdaaJoined2
import Derived.Test.YtbfhchhggkpbdaaJoined0
import Derived.Deep.LoopGhost
import Derived.Test.YtbfhchhggkpbdaaJoined3
import Derived.Test.YtbfhchhggkpbdaaJoined5
import Derived.Test.YtbfhchhggkpbdaaRows
import Derived.ProofKit
import Derived.OpenShut
import Derived.Deep.Slices
import Derived.Deep.SlicePairs
import Derived.Deep.Matrix
import Derived.Lib.SmallJoins
import Derived.WalkKit

/-
  What package seq's New comes to.
-/
namespace Go.Proofs.Ytbfhchhggkpbdaa
open Go.RowKit
set_option linter.unusedVariables false
set_option linter.unusedSimpArgs false
set_option maxRecDepth 8000

theorem heap_alloc2_last (w : World) (a b : Obj) : ((w.alloc a).alloc b).heap[w.heap.size + 1]? = some b := by
  have := heap_alloc_last (w.alloc a) b
  rwa [show (w.alloc a).heap.size = w.heap.size + 1 from by simp] at this
theorem size_alloc2 (w : World) (a b : Obj) : w.heap.size + 1 < ((w.alloc a).alloc b).heap.size := by simp

theorem zrow : ∃ z : Array Value, (∀ w, (zeroValue 77).run Try.prog w = .ok (.agg z) w) ∧ (∀ w, (Instr.build 77 #[]).run Try.prog w = .ok (.agg z) w) ∧ MC z (.slice none 0 0) (.slice none 0 0) (ms0 0) ∧ (Try.prog.info? 77).map (·.size) = some 411 := by
  obtain ⟨h1, h2⟩ := zero_of_info info70
  exact ⟨_, h1, fun w => run_build w 77 #[] _ (by simpa using built70_none), rowOf_mc _ _ (ms0 0), h2⟩

set_option maxHeartbeats 1000000 in
theorem seq_new_form (p : Prg) (l : Loc) (ma : Option Addr) (ml mc mb mo : Nat) (A : Nat → Option Addr) (L C : Nat → Nat) (fuel : Int) (w : World) (h : PIn w p l) (hma : 0 < ml → ma = some ⟨mb, mo, none⟩) (hm : ListsAt w mb mo ml A L C) (hbad : ¬ (p.Ok 8000 10 ∧ FitsOk p.rl p.log ml L)) :
    Calls Try.prog 45 #[.agg #[.slice l.ra p.rl l.rc, .slice l.ca p.cl l.cc], .slice ma ml mc, .int .i64 fuel] w fun e w' => ∃ z, MC z (.slice none 0 0) (.slice none 0 0) (ms0 0) ∧ e = .returned (.tuple #[.agg z, .int .i64 2]) ∧ More w w' := by
  obtain ⟨z, z1, z2, z3, z4⟩ := zrow
  have H : Hid (PIn w p l ∧ (0 < ml → ma = some ⟨mb, mo, none⟩) ∧ ListsAt w mb mo ml A L C ∧ ¬ (p.Ok 8000 10 ∧ FitsOk p.rl p.log ml L)) := ⟨h, hma, hm, hbad⟩
  have Hz : Hid (MC z (.slice none 0 0) (.slice none 0 0) (ms0 0) ∧ (Try.prog.info? 77).map (·.size) = some 411 ∧ z.size = 411) := ⟨z3, z4, z3.size rfl⟩
  obtain ⟨P, hP⟩ : ∃ P, P = fun (e : Ending) (w' : World) => ∃ z, MC z (.slice none 0 0) (.slice none 0 0) (ms0 0) ∧ e = .returned (.tuple #[.agg z, .int .i64 2]) ∧ More w w' := ⟨_, rfl⟩
  rw [← hP]
  have HP : Hid (P = fun (e : Ending) (w' : World) => ∃ z, MC z (.slice none 0 0) (.slice none 0 0) (ms0 0) ∧ e = .returned (.tuple #[.agg z, .int .i64 2]) ∧ More w w') := hP
  clear h hma hm z3 z4 hP hbad
  go_enter Try.func45, Try.ntmps45
  go_wp2_with (fail)
  refine (hard_calls p l _ (H.out.1.more (((More.refl _).alloc _ _).alloc _ _))).mono ?_
  rintro e w1 ⟨r1, rfl, h1, m1⟩
  have hrow : w1.heap[w.heap.size + 1]? = some (.cells z 77 (0, 0)) := by rw [m1.block (w.heap.size + 1) (size_alloc2 _ _ _)]; exact heap_alloc2_last _ _ _
  have e0 : w1.cell? ⟨w.heap.size, 0, none⟩ = some (.slice l.ra p.rl l.rc) := m1.cell (by go_simp)
  have e1 : w1.cell? ⟨w.heap.size, 1, none⟩ = some (.slice l.ca p.cl l.cc) := m1.cell (by go_simp)
  have Hm1 : Hid (More w w1) := (((More.refl _).alloc _ _).alloc _ _).trans m1
  clear m1
  cases r1 with
  | false =>
    clear h1
    go_wp2_with (refine wpList_store_row rfl 77 (.tmp 6) (.tmp 20) rfl (w.heap.size + 1) z rfl rfl 77 z hrow (by rw [Hz.out.2.2]; exact Hz.out.2.1) rfl (Hz.out.1.one rfl rfl rfl rfl rfl) ?_; rw [setRow_self _ _ _ _ _ hrow])
    refine bodyPost_ret (results_row_tmp rfl _ _ (w.heap.size + 1) 77 z (0, 0) _ rfl hrow Try.underlying77 rfl (by rw [Hz.out.2.2]; exact Hz.out.2.1)) rfl ?_
    rw [HP.out]
    exact ⟨z, Hz.out.1, rfl, Hm1.out⟩
  | true =>
    have HA : Hid (p.Ok 8000 10) := h1.1 rfl
    clear h1
    go_wp2_with (fail)
    refine (fits_calls l.ra p.rl l.rc l.ca p.cl l.cc ma ml mc l.rb l.ro mb mo p.log p.sec A L C _ H.out.1.hr (H.out.1.regs.more Hm1.out) H.out.2.1 (H.out.2.2.1.more Hm1.out)).mono ?_
    rintro e w2 ⟨r2, rfl, h2, m2⟩
    have Hm2 : Hid (More w w2) := Hm1.out.trans m2
    have hrow2 : w2.heap[w.heap.size + 1]? = some (.cells z 77 (0, 0)) := by rw [m2.block (w.heap.size + 1) (by rcases Nat.lt_or_ge (w.heap.size + 1) w1.heap.size with h' | h'; exact h'; rw [Array.getElem?_eq_none h'] at hrow; cases hrow)]; exact hrow
    clear hrow
    have hrow := hrow2
    clear m2 e0 e1 hrow2
    cases r2 with
    | true => exact absurd ⟨HA.out, h2.1 rfl⟩ H.out.2.2.2
    | false =>
      clear h2
      go_wp2_with (refine wpList_store_row rfl 77 (.tmp 6) (.tmp 20) rfl (w.heap.size + 1) z rfl rfl 77 z hrow (by rw [Hz.out.2.2]; exact Hz.out.2.1) rfl (Hz.out.1.one rfl rfl rfl rfl rfl) ?_; rw [setRow_self _ _ _ _ _ hrow])
      refine bodyPost_ret (results_row_tmp rfl _ _ (w.heap.size + 1) 77 z (0, 0) _ rfl hrow Try.underlying77 rfl (by rw [Hz.out.2.2]; exact Hz.out.2.1)) rfl ?_
      rw [HP.out]
      exact ⟨z, Hz.out.1, rfl, Hm2.out⟩

set_option maxHeartbeats 1000000 in
theorem seq_new_range (p : Prg) (l : Loc) (ma : Option Addr) (ml mc mb mo : Nat) (A : Nat → Option Addr) (L C : Nat → Nat) (fuel : Int) (w : World) (h : PIn w p l) (hma : 0 < ml → ma = some ⟨mb, mo, none⟩) (hm : ListsAt w mb mo ml A L C) (hok : p.Ok 8000 10) (hfit : FitsOk p.rl p.log ml L) (hf : fuel < 0 ∨ 40000 < fuel) :
    Calls Try.prog 45 #[.agg #[.slice l.ra p.rl l.rc, .slice l.ca p.cl l.cc], .slice ma ml mc, .int .i64 fuel] w fun e w' => ∃ z, MC z (.slice none 0 0) (.slice none 0 0) (ms0 0) ∧ e = .returned (.tuple #[.agg z, .int .i64 3]) ∧ More w w' := by
  have hb3 : p.Ok 8000 10 ∧ FitsOk p.rl p.log ml L ∧ (fuel < 0 ∨ 40000 < fuel) := ⟨hok, hfit, hf⟩
  clear hok hfit hf
  obtain ⟨z, z1, z2, z3, z4⟩ := zrow
  have H : Hid (PIn w p l ∧ (0 < ml → ma = some ⟨mb, mo, none⟩) ∧ ListsAt w mb mo ml A L C ∧ (p.Ok 8000 10 ∧ FitsOk p.rl p.log ml L ∧ (fuel < 0 ∨ 40000 < fuel))) := ⟨h, hma, hm, hb3⟩
  have Hz : Hid (MC z (.slice none 0 0) (.slice none 0 0) (ms0 0) ∧ (Try.prog.info? 77).map (·.size) = some 411 ∧ z.size = 411) := ⟨z3, z4, z3.size rfl⟩
  obtain ⟨P, hP⟩ : ∃ P, P = fun (e : Ending) (w' : World) => ∃ z, MC z (.slice none 0 0) (.slice none 0 0) (ms0 0) ∧ e = .returned (.tuple #[.agg z, .int .i64 3]) ∧ More w w' := ⟨_, rfl⟩
  rw [← hP]
  have HP : Hid (P = fun (e : Ending) (w' : World) => ∃ z, MC z (.slice none 0 0) (.slice none 0 0) (ms0 0) ∧ e = .returned (.tuple #[.agg z, .int .i64 3]) ∧ More w w') := hP
  clear h hma hm z3 z4 hP hb3
  go_enter Try.func45, Try.ntmps45
  go_wp2_with (fail)
  refine (hard_calls p l _ (H.out.1.more (((More.refl _).alloc _ _).alloc _ _))).mono ?_
  rintro e w1 ⟨r1, rfl, h1, m1⟩
  have hrow : w1.heap[w.heap.size + 1]? = some (.cells z 77 (0, 0)) := by rw [m1.block (w.heap.size + 1) (size_alloc2 _ _ _)]; exact heap_alloc2_last _ _ _
  have e0 : w1.cell? ⟨w.heap.size, 0, none⟩ = some (.slice l.ra p.rl l.rc) := m1.cell (by go_simp)
  have e1 : w1.cell? ⟨w.heap.size, 1, none⟩ = some (.slice l.ca p.cl l.cc) := m1.cell (by go_simp)
  have Hm1 : Hid (More w w1) := (((More.refl _).alloc _ _).alloc _ _).trans m1
  clear m1
  obtain rfl : r1 = true := h1.2 H.out.2.2.2.1
  clear h1
  go_wp2_with (fail)
  refine (fits_calls l.ra p.rl l.rc l.ca p.cl l.cc ma ml mc l.rb l.ro mb mo p.log p.sec A L C _ H.out.1.hr (H.out.1.regs.more Hm1.out) H.out.2.1 (H.out.2.2.1.more Hm1.out)).mono ?_
  rintro e w2 ⟨r2, rfl, h2, m2⟩
  have Hm2 : Hid (More w w2) := Hm1.out.trans m2
  have hrow2 : w2.heap[w.heap.size + 1]? = some (.cells z 77 (0, 0)) := by rw [m2.block (w.heap.size + 1) (by rcases Nat.lt_or_ge (w.heap.size + 1) w1.heap.size with h' | h'; exact h'; rw [Array.getElem?_eq_none h'] at hrow; cases hrow)]; exact hrow
  clear hrow
  have hrow := hrow2
  obtain rfl : r2 = true := h2.2 H.out.2.2.2.2.1
  clear m2 e0 e1 hrow2 h2
  by_cases hf : fuel < 0
  · go_wp2_with (refine wpList_store_row rfl 77 (.tmp 6) (.tmp 27) rfl (w.heap.size + 1) z rfl rfl 77 z hrow (by rw [Hz.out.2.2]; exact Hz.out.2.1) rfl (Hz.out.1.one rfl rfl rfl rfl rfl) ?_; rw [setRow_self _ _ _ _ _ hrow])
    refine bodyPost_ret (results_row_tmp rfl _ _ (w.heap.size + 1) 77 z (0, 0) _ rfl hrow Try.underlying77 rfl (by rw [Hz.out.2.2]; exact Hz.out.2.1)) rfl ?_
    rw [HP.out]
    exact ⟨z, Hz.out.1, rfl, Hm2.out⟩
  · have hf2 : 40000 < fuel := by have := H.out.2.2.2.2.2; omega
    have hf1 : decide (fuel < 0) = false := by simp; omega
    go_wp2_with (refine wpList_store_row rfl 77 (.tmp 6) (.tmp 27) rfl (w.heap.size + 1) z rfl rfl 77 z hrow (by rw [Hz.out.2.2]; exact Hz.out.2.1) rfl (Hz.out.1.one rfl rfl rfl rfl rfl) ?_; rw [setRow_self _ _ _ _ _ hrow])
    refine bodyPost_ret (results_row_tmp rfl _ _ (w.heap.size + 1) 77 z (0, 0) _ rfl hrow Try.underlying77 rfl (by rw [Hz.out.2.2]; exact Hz.out.2.1)) rfl ?_
    rw [HP.out]
    exact ⟨z, Hz.out.1, rfl, Hm2.out⟩

end Go.Proofs.Ytbfhchhggkpbdaa

/-
  What package seq's New comes to where nothing is wrong: a machine ahead of its first step, with the words of memory.
-/
namespace Go.Proofs.Ytbfhchhggkpbdaa
open Go.RowKit
set_option linter.unusedVariables false
set_option linter.unusedSimpArgs false
set_option maxRecDepth 8000

theorem MC.set {c : Array Value} {rv cv rv' cv' : Value} {x x' : Ms} (h : MC c rv cv x) (j : Nat) (v : Value) (hj : j < 411) (ht : x'.tl = x.tl) (hx : ∀ i, i < 411 → cellF rv' cv' x' i = if i = j then v else cellF rv cv x i) : MC (c.setIfInBounds j v) rv' cv' x' := by
  refine ⟨by simp [h.big], fun i hi => ?_, fun i hi => ?_⟩
  · rw [hx i hi, Array.getElem?_setIfInBounds]
    by_cases e : i = j
    · subst e
      rw [if_pos rfl, if_pos rfl, if_pos (by have := h.big; omega)]
    · rw [if_neg (fun h => e h.symm), if_neg e]
      exact h.at_ i hi
  · rw [Array.getElem?_setIfInBounds, if_neg (by omega), ht]
    exact h.tail i hi
theorem MC.first {z : Array Value} (h : MC z (.slice none 0 0) (.slice none 0 0) (ms0 0)) (rv cv : Value) (fuel : Int) : MC (((z.setIfInBounds 0 rv).setIfInBounds 1 cv).setIfInBounds 402 (.int .i64 fuel)) rv cv (ms0 fuel) := by
  have h1 : MC (z.setIfInBounds 0 rv) rv (.slice none 0 0) (ms0 0) := h.set 0 rv (by omega) rfl fun i hi => by unfold cellF; by_cases e : i = 0 <;> simp [e]
  have h2 : MC ((z.setIfInBounds 0 rv).setIfInBounds 1 cv) rv cv (ms0 0) := h1.set 1 cv (by omega) rfl fun i hi => by unfold cellF; by_cases e : i = 1 <;> simp [e]
  exact h2.set 402 _ (by omega) rfl fun i hi => by unfold cellF ms0; by_cases e : i = 402 <;> simp [e]

theorem info2s : (Try.prog.info? 2).map (·.size) = some 1 := by kernel_rfl
theorem More.trans_setRow {w w' : World} {g : Nat} {c : Array Value} (h : More w w') (hg : w.heap.size ≤ g) : More w (w'.setRow g c) :=
  Below.trans h ⟨rfl, rfl, rfl, by simp [World.setRow], fun k hk => setRow_other w' g k c (by omega)⟩

theorem MC.like {c : Array Value} {rv cv : Value} {x : Ms} (h : MC c rv cv x) {w : World} {M : Nat} (hh : w.heap[M]? = some (.cells c x.T (0, 0))) : MAt w M rv cv x := ⟨c, hh, h⟩

set_option maxHeartbeats 2000000 in
theorem seq_new (p : Prg) (l : Loc) (m : Mem) (ml : MLoc) (fuel : Int) (w : World) (h : PIn w p l) (hm : MIn w m ml) (hok : p.Ok 8000 10) (hfit : FitsOk p.rl p.log m.ml m.len) (hlen : ∀ i, i < m.ml → 0 < m.len i ∧ m.len i ≤ 64) (f0 : 0 ≤ fuel) (f1 : fuel ≤ 40000) :
    Calls Try.prog 45 #[.agg #[.slice l.ra p.rl l.rc, .slice l.ca p.cl l.cc], .slice ml.ma m.ml ml.mc, .int .i64 fuel] w fun e w' => ∃ (c : Array Value) (W S : Nat → Int), e = .returned (.tuple #[.agg c, .int .i64 0]) ∧ MC c (.slice l.ra p.rl l.rc) (.slice l.ca p.cl l.cc) { ms0 fuel with wd := W, st := S } ∧
      (∀ j, j ≤ m.ml → S j = (baseN m.len j : Int)) ∧ (∀ j, j < m.ml → ∀ i, i < m.len j → W (baseN m.len j + i) = m.wd j i) ∧ More w w' := by
  obtain ⟨z, z1, z2, z3, z4⟩ := zrow
  obtain ⟨ma, mb, mo, mc, A, C0, gb, go⟩ := ml
  have H : Hid (PIn w p l ∧ MIn w m ⟨ma, mb, mo, mc, A, C0, gb, go⟩ ∧ p.Ok 8000 10 ∧ FitsOk p.rl p.log m.ml m.len ∧ (∀ i, i < m.ml → 0 < m.len i ∧ m.len i ≤ 64)) := ⟨h, hm, hok, hfit, hlen⟩
  have Hz : Hid (MC z (.slice none 0 0) (.slice none 0 0) (ms0 0) ∧ (Try.prog.info? 77).map (·.size) = some 411 ∧ z.size = 411) := ⟨z3, z4, z3.size rfl⟩
  have hzs : z.size = 411 := z3.size rfl
  have Hc : Hid (MC (((z.setIfInBounds 0 (.slice l.ra p.rl l.rc)).setIfInBounds 1 (.slice l.ca p.cl l.cc)).setIfInBounds 402 (.int .i64 fuel)) (.slice l.ra p.rl l.rc) (.slice l.ca p.cl l.cc) (ms0 fuel)) := z3.first _ _ _
  obtain ⟨P, hP⟩ : ∃ P, P = fun (e : Ending) (w' : World) => ∃ (c : Array Value) (W S : Nat → Int), e = .returned (.tuple #[.agg c, .int .i64 0]) ∧ MC c (.slice l.ra p.rl l.rc) (.slice l.ca p.cl l.cc) { ms0 fuel with wd := W, st := S } ∧
      (∀ j, j ≤ m.ml → S j = (baseN m.len j : Int)) ∧ (∀ j, j < m.ml → ∀ i, i < m.len j → W (baseN m.len j + i) = m.wd j i) ∧ More w w' := ⟨_, rfl⟩
  rw [← hP]
  have HP : Hid (P = fun (e : Ending) (w' : World) => ∃ (c : Array Value) (W S : Nat → Int), e = .returned (.tuple #[.agg c, .int .i64 0]) ∧ MC c (.slice l.ra p.rl l.rc) (.slice l.ca p.cl l.cc) { ms0 fuel with wd := W, st := S } ∧
      (∀ j, j ≤ m.ml → S j = (baseN m.len j : Int)) ∧ (∀ j, j < m.ml → ∀ i, i < m.len j → W (baseN m.len j + i) = m.wd j i) ∧ More w w') := hP
  dsimp only
  obtain ⟨n, hn⟩ : ∃ n, m.ml = n := ⟨_, rfl⟩
  rw [hn]
  have Hn : Hid (m.ml = n) := hn
  clear h hm hok hfit hlen z3 z4 hP hn
  have f2 : ¬ fuel < 0 := by omega
  have f3 : ¬ 40000 < fuel := by omega
  have f2' : decide (fuel < 0) = false := by simp; omega
  have f3' : decide (40000 < fuel) = false := by simp; omega
  go_enter Try.func45, Try.ntmps45
  go_wp2_with (fail)
  refine (hard_calls p l _ (H.out.1.more (((More.refl _).alloc _ _).alloc _ _))).mono ?_
  rintro e w1 ⟨r1, rfl, h1, m1⟩
  obtain rfl : r1 = true := h1.2 H.out.2.2.1
  have hrow1 : w1.heap[w.heap.size + 1]? = some (.cells z 77 (0, 0)) := by rw [m1.block (w.heap.size + 1) (size_alloc2 _ _ _)]; exact heap_alloc2_last _ _ _
  have e0 : w1.cell? ⟨w.heap.size, 0, none⟩ = some (.slice l.ra p.rl l.rc) := m1.cell (by go_simp)
  have e1 : w1.cell? ⟨w.heap.size, 1, none⟩ = some (.slice l.ca p.cl l.cc) := m1.cell (by go_simp)
  have Hm1 : Hid (More w w1) := (((More.refl _).alloc _ _).alloc _ _).trans m1
  have s1 : w.heap.size + 2 ≤ w1.heap.size := by have := m1.size; have := size_alloc2 w (.cells #[.slice l.ra p.rl l.rc, .slice l.ca p.cl l.cc] 29) (.cells z 77); omega
  clear m1 h1
  go_wp2_with (fail)
  refine (fits_calls l.ra p.rl l.rc l.ca p.cl l.cc ma n mc l.rb l.ro mb mo p.log p.sec A m.len C0 _ H.out.1.hr (H.out.1.regs.more Hm1.out) (by rw [← Hn.out]; exact H.out.2.1.hm) (by rw [← Hn.out]; exact H.out.2.1.lists.more Hm1.out)).mono ?_
  rintro e w2 ⟨r2, rfl, h2, m2⟩
  obtain rfl : r2 = true := h2.2 (by rw [← Hn.out]; exact H.out.2.2.2.1)
  have hrow2 : w2.heap[w.heap.size + 1]? = some (.cells z 77 (0, 0)) := by rw [m2.block (w.heap.size + 1) (by omega)]; exact hrow1
  have e0' := m2.cell e0
  have e1' := m2.cell e1
  have Hm2 : Hid (More w w2) := Hm1.out.trans m2
  have s2 : w.heap.size + 2 ≤ w2.heap.size := by have := m2.size; omega
  clear m2 h2 e0 e1 hrow1
  go_wp2_with (refine wpList_store_row rfl 77 (.tmp 8) (.tmp 30) rfl w2.heap.size (((z.setIfInBounds 0 (.slice l.ra p.rl l.rc)).setIfInBounds 1 (.slice l.ca p.cl l.cc)).setIfInBounds 402 (.int .i64 fuel)) rfl rfl 77 z (heap_alloc_last _ _) (by rw [Hc.out.size rfl]; exact Hz.out.2.1) (by rw [Hc.out.size rfl, Hz.out.2.2]) (Hc.out.one rfl rfl rfl rfl rfl) ?_; rw [World.setRow_alloc_new])
  have HN0 : Hid (Nw w (w2.alloc (.cells (((z.setIfInBounds 0 (.slice l.ra p.rl l.rc)).setIfInBounds 1 (.slice l.ca p.cl l.cc)).setIfInBounds 402 (.int .i64 fuel)) 77)) (.slice l.ra p.rl l.rc) (.slice l.ca p.cl l.cc) w2.heap.size m fuel z 0 (fun _ => 0) (fun _ => 0)) :=
    ⟨Hm2.out.alloc _ _, s2, ⟨_, heap_alloc_last _ _, Hc.out⟩, fun j hj => by obtain rfl : j = 0 := by omega
                                                                             rfl, fun j hj => by omega, by rw [(World.grownBy_alloc w2 _ none).block _ (by omega) (by simp)]; exact hrow2⟩
  clear hrow2 e0' e1' hzs
  go_loopg [33] n (fun q i wr => ∃ (k : Nat) (W S : Nat → Int), k + q = n ∧ i = .int .i64 k ∧ Nw w wr (.slice l.ra p.rl l.rc) (.slice l.ca p.cl l.cc) w2.heap.size m fuel z k W S)
  case atStart => exact ⟨0, _, _, by omega, rfl, HN0.out⟩
  case round =>
    obtain ⟨k, W, S, hkq, rfl, hN⟩ := hrel
    have HNk : Hid (Nw w wr (.slice l.ra p.rl l.rc) (.slice l.ca p.cl l.cc) w2.heap.size m fuel z k W S) := hN
    clear hN HN0
    cases gk with
    | zero =>
      obtain rfl : k = n := by omega
      obtain ⟨c, hh, mc⟩ := HNk.out.at_.out
      have Hcc : Hid (MC c (.slice l.ra p.rl l.rc) (.slice l.ca p.cl l.cc) { ms0 fuel with wd := W, st := S }) := mc
      have hres := HNk.out.res
      have i70 : Hid ((Try.prog.info? 77).map (·.size) = some c.size) := by rw [show Hid ((Try.prog.info? 77).map (·.size) = some c.size) = ((Try.prog.info? 77).map (·.size) = some c.size) from rfl, Hcc.out.size rfl]; exact Hz.out.2.1
      clear mc
      go_wp2_with (first
        | (refine wpList_load_row rfl 77 (.tmp 8) rfl w2.heap.size rfl 77 c (0, 0) _ hh Try.underlying77 rfl i70.out ?_)
        | (refine wpList_store_row rfl 77 (.tmp 6) (.tmp 57) rfl (w.heap.size + 1) c rfl rfl 77 z hres i70.out (by rw [Hcc.out.size rfl, Hz.out.2.2]) (Hcc.out.one rfl rfl rfl rfl rfl) ?_))
      refine bodyPost_ret (results_row_tmp rfl _ _ (w.heap.size + 1) 77 c (0, 0) _ rfl (setRow_heap _ _ _ _ _ _ hres) Try.underlying77 rfl i70.out) rfl ?_
      rw [HP.out]
      refine ⟨c, W, S, rfl, Hcc.out, by rw [Hn.out]; exact HNk.out.st, by rw [Hn.out]; exact HNk.out.wd, ?_⟩
      exact HNk.out.more.trans_setRow (by omega)
    | succ q =>
      have hk : k < n := by omega
      have hk' : (k : Int) < (n : Int) := by omega
      have hk0 : (0 : Int) ≤ (k : Int) := by omega
      have Hk : Hid (k < m.ml ∧ m.ml ≤ 6) := ⟨by rw [Hn.out]; exact hk, by have := H.out.2.2.2.1; have h1 := this.2.1; have h2 := this.1.1; omega⟩
      obtain rfl : ma = some ⟨mb, mo, none⟩ := H.out.2.1.hm (by have := Hk.out; omega)
      have q1 := (H.out.2.1.lists.more HNk.out.more) k Hk.out.1
      dsimp only at q1
      rw [show A k = some ⟨gb k, go k, none⟩ from H.out.2.1.hg k Hk.out.1 (H.out.2.2.2.2 k Hk.out.1).1] at q1
      have Hb : Hid (baseN m.len (k + 1) ≤ 384 ∧ 0 < m.len k ∧ m.len k ≤ 64) := by
        refine ⟨?_, H.out.2.2.2.2 k Hk.out.1⟩
        have := baseN_le m.len (k + 1) (fun j hj => (H.out.2.2.2.2 j (by have := Hk.out; omega)).2)
        have := Hk.out
        omega
      have t0 : wr.cell? ⟨w2.heap.size, 404 + k, none⟩ = some (.int .i64 (baseN m.len k : Int)) := by have := (HNk.out.at_.st k (by have := Hk.out; omega)).1; dsimp only at this; rw [HNk.out.st k (Nat.le_refl _)] at this; exact this
      have Hd : Hid (∀ j, j < m.len k → Wr wr w2.heap.size (17 + (baseN m.len k + j)) (.int .i64 (W (baseN m.len k + j)))) := fun j hj => HNk.out.at_.wd _ (by have := Hb.out; simp only [baseN] at this; omega)
      obtain ⟨t1, f1'⟩ := HNk.out.at_.st (k + 1) (by have := Hk.out; omega)
      dsimp only at t1
      have Hstep : Hid (∀ v, v = (baseN m.len (k + 1) : Int) → ∃ W' S', Nw w (((wr.drew).setCells w2.heap.size (17 + baseN m.len k) (intsN (m.wd k) (m.len k))).setCell ⟨w2.heap.size, 404 + (k + 1), none⟩ (.int .i64 v)) (.slice l.ra p.rl l.rc) (.slice l.ca p.cl l.cc) w2.heap.size m fuel z (k + 1) W' S') := fun v hv => HNk.out.step (by have := Hk.out; omega) Hb.out.1 v hv
      have Hsrc : Hid (∀ j v, (intsN (m.wd k) (m.len k))[j]? = some v → wr.drew.cell? ((⟨gb k, go k, none⟩ : Addr).add j) = some v) := by
        intro j u hu
        have hj : j < m.len k := by have := (List.getElem?_eq_some_iff.1 hu).1; rw [intsN_length] at this; exact this
        rw [intsN_at _ _ j hj] at hu
        rw [Go.WideShapes.add_plain, ← Option.some.inj hu]
        exact HNk.out.more.drew.cell (H.out.2.1.words k Hk.out.1 j hj)
      obtain ⟨lo, hlo⟩ : ∃ lo, baseN m.len k = lo := ⟨_, rfl⟩
      obtain ⟨r, hr⟩ : ∃ r, m.len k = r := ⟨_, rfl⟩
      have hhi : baseN m.len (k + 1) = lo + r := by simp only [baseN, hlo, hr]
      rw [hhi, hr] at Hb
      rw [hhi, hlo, hr] at Hstep
      rw [hr] at Hsrc q1
      rw [hlo] at t0
      rw [hlo, hr] at Hd
      have Hcl : Hid (∀ j v, j < r → wr.drew.cell? ⟨w2.heap.size, 404 + k, none⟩ = some v → True) := fun _ _ _ _ => trivial
      clear hlo hr hhi
      have b1 : (lo : Int) ≤ 384 := by have := Hb.out; omega
      have b3 : (0 : Int) ≤ (lo : Int) := by omega
      have b6 : ¬ 384 = lo := by have := Hb.out; omega
      have hk7 : (k : Int) < 7 := by have := Hk.out; omega
      have hk17 : (k : Int) + 1 < 7 := by have := Hk.out; omega
      have hk10 : (0 : Int) ≤ (k : Int) + 1 := by omega
      have hkw : wrap64 ((k : Int) + 1) = (k : Int) + 1 := by unfold wrap64; have := Hk.out; omega
      have hlr : wrap64 ((lo : Int) + (r : Int)) = (lo : Int) + (r : Int) := by unfold wrap64; have := Hb.out; omega
      have ht : ((k : Int) + 1).toNat = k + 1 := by omega
      have hwr := wrapEq
      obtain ⟨y1, hy1⟩ : ∃ y, S (k + 1) = y := ⟨_, rfl⟩
      rw [hy1] at t1
      clear hy1
      have a404 : (wr.drew.setCells w2.heap.size (17 + lo) (intsN (m.wd k) r)).cell? ⟨w2.heap.size, 404 + k, none⟩ = some (.int .i64 (lo : Int)) := by
        rw [World.cell?_setCells_out _ _ _ _ _ (fun _ _ => .inr (by rw [intsN_length]; have := Hb.out; dsimp only; omega))]; exact t0
      have a405 : (wr.drew.setCells w2.heap.size (17 + lo) (intsN (m.wd k) r)).cell? ⟨w2.heap.size, 404 + (k + 1), none⟩ = some (.int .i64 y1) := by
        rw [World.cell?_setCells_out _ _ _ _ _ (fun _ _ => .inr (by rw [intsN_length]; have := Hb.out; dsimp only; omega))]; exact t1
      have g405 : (wr.drew.setCells w2.heap.size (17 + lo) (intsN (m.wd k) r)).frozen? ⟨w2.heap.size, 404 + (k + 1), none⟩ = false := by
        rw [World.frozen?_setCells]; exact f1'
      obtain ⟨SS, HS⟩ : ∃ S : World → Prop, Hid (∀ w', S w' ↔ w'.cell? ⟨w2.heap.size, 404 + k, none⟩ = some (.int .i64 (lo : Int))) := ⟨_, fun _ => Iff.rfl⟩
      have kl : ∀ i : { w' // SS w' }, i.val.cell? ⟨w2.heap.size, 404 + k, none⟩ = some (.int .i64 (lo : Int)) := fun i => (HS.out _).1 i.property
      have hne : Nonempty { w' // SS w' } := ⟨⟨wr, (HS.out _).2 t0⟩⟩
      go_wp2_with (fail)
      refine wp_region_ord (S := SS) [(0, true), (1, true), (2, true), (3, true), (4, true), (5, true), (6, true), (7, true), (8, true), (9, true), (10, true), (11, true), (12, true), (13, true), (16, true), (14, false), (15, true), (17, true), (18, false)] (by kernel_rfl) (by kernel_rfl) (by kernel_rfl) ?_ ?_
      · exact (HS.out _).2 t0
      iterate 15 (refine wpOrd_take rfl (by kernel_rfl) (fun K hK => ?_); go_simp; refine hK _ _ ?_; clear hK K)
      refine wpOrd_busy rfl (by kernel_rfl) (fun K hK => ?_)
      refine wp_copy_cells (.tmp 50) (.tmp 51) 67 67 rfl 2 Try.underlying67 info2s w2.heap.size (17 + lo) (384 - lo) (384 - lo) ⟨gb k, go k, none⟩ r (C0 k) rfl rfl (intsN (m.wd k) r) (by rw [intsN_length]; have := Hb.out; simp only [Nat.min_def]; split <;> omega) Hsrc.out (fun j hj => ?_) (fun j hj => ?_) (fun v hv => ?_) ?_
      · rw [intsN_length] at hj; rw [Nat.add_assoc]; rw [(Hd.out j hj).kept (grown_drew wr none) (by simp) |>.1]; rfl
      · rw [intsN_length] at hj; rw [Nat.add_assoc]; exact ((Hd.out j hj).kept (grown_drew wr none) (by simp)).2
      · simp [intsN] at hv; obtain ⟨j, _, rfl⟩ := hv; rfl
      rw [intsN_length]
      go_simp
      refine hK _ _ ((HS.out _).2 a404) ?_; clear hK K
      iterate 2 (refine wpOrd_take rfl (by kernel_rfl) (fun K hK => ?_); go_simp; refine hK _ _ ?_; clear hK K)
      refine wpOrd_busy rfl (by kernel_rfl) (fun K hK => ?_); go_simp
      refine hK _ _ ((HS.out _).2 (by go_simp)) ?_; clear hK K
      refine wpOrd_done ?_
      clear kl hne
      go_wp2
      go_roundg q
      case measure => omega
      case rel =>
        obtain ⟨W', S', hst⟩ := Hstep.out ((lo : Int) + (r : Int)) (by push_cast; rfl)
        exact ⟨k + 1, W', S', by omega, by first | rfl | (push_cast; rfl), hst⟩
end Go.Proofs.Ytbfhchhggkpbdaa

/-
  What package seq's Run comes to: the run that chapter 3 says, or what is wrong.
-/
namespace Go.Proofs.Ytbfhchhggkpbdaa
open Go.RowKit
set_option linter.unusedVariables false
set_option linter.unusedSimpArgs false
set_option maxRecDepth 8000

theorem hid_of {P : Prop} (h : P) : Hid P := h

/-- The machine at the end, as what is told. -/
theorem fin_like {m : Mem} {R : Sh} {x : Ms} {se : List Se} (h : Fin_ m R x se) : Mem.Like ⟨m.ml, fun j => baseN m.len (j + 1) - baseN m.len j, fun j i => x.wd (baseN m.len j + i)⟩ R.mem := by
  have hl : ∀ j, baseN m.len (j + 1) - baseN m.len j = m.len j := fun j => by simp only [baseN]; omega
  refine ⟨h.ml.symm, fun i hi => ?_, fun i hi j hj => ?_⟩
  · dsimp only; rw [hl, h.len]
  · dsimp only at hj ⊢
    rw [hl] at hj
    exact h.w.wd i hi j hj

set_option maxHeartbeats 1000000 in
theorem seq_run_wrong (p : Prg) (l : Loc) (ma : Option Addr) (ml mc : Nat) (fuel code : Int) (w : World) (hc : ¬ code = 0)
    (hnew : ∀ w1, More w w1 → Calls Try.prog 45 #[.agg #[.slice l.ra p.rl l.rc, .slice l.ca p.cl l.cc], .slice ma ml mc, .int .i64 fuel] w1 fun e w' => ∃ z, MC z (.slice none 0 0) (.slice none 0 0) (ms0 0) ∧ e = .returned (.tuple #[.agg z, .int .i64 code]) ∧ More w1 w') :
    Calls Try.prog 23 #[.agg #[.slice l.ra p.rl l.rc, .slice l.ca p.cl l.cc], .slice ma ml mc, .int .i64 fuel] w fun e w' => e = .returned (.tuple #[.agg #[.int .i64 0, .int .i64 0, .int .i64 0, .slice none 0 0, .slice none 0 0], .int .i64 code]) ∧ More w w' := by
  obtain ⟨z, z1, z2, z3, z4⟩ := zrow
  have HN : Hid (∀ w1, More w w1 → Calls Try.prog 45 #[.agg #[.slice l.ra p.rl l.rc, .slice l.ca p.cl l.cc], .slice ma ml mc, .int .i64 fuel] w1 fun e w' => ∃ z, MC z (.slice none 0 0) (.slice none 0 0) (ms0 0) ∧ e = .returned (.tuple #[.agg z, .int .i64 code]) ∧ More w1 w') := hnew
  have Hz : Hid (MC z (.slice none 0 0) (.slice none 0 0) (ms0 0) ∧ (Try.prog.info? 77).map (·.size) = some 411 ∧ z.size = 411) := ⟨z3, z4, z3.size rfl⟩
  clear hnew z3 z4
  go_enter Try.func23, Try.ntmps23
  go_wp2_with (fail)
  refine (HN.out _ (((More.refl _).alloc _ _).alloc _ _)).mono ?_
  rintro e w1 ⟨c, mcc, rfl, m1⟩
  have Hc : Hid (MC c (.slice none 0 0) (.slice none 0 0) (ms0 0)) := mcc
  have s1 : w.heap.size + 2 ≤ w1.heap.size := by have := m1.size; have := size_alloc2 w (.cells #[.slice l.ra p.rl l.rc, .slice l.ca p.cl l.cc] 29) (.cells #[.int .i64 0, .int .i64 0, .int .i64 0, .slice none 0 0, .slice none 0 0] 37); omega
  have Hm1 : Hid (More w w1) := (((More.refl _).alloc _ _).alloc _ _).trans m1
  obtain ⟨w3, hw3⟩ : ∃ w3, w3 = w1.alloc (.cells c 77) := ⟨_, rfl⟩
  have Hw3 : Hid (w3 = w1.alloc (.cells c 77)) := hw3
  have zz : ∀ j v, Wr ((w.alloc (.cells #[.slice l.ra p.rl l.rc, .slice l.ca p.cl l.cc] 29)).alloc (.cells #[.int .i64 0, .int .i64 0, .int .i64 0, .slice none 0 0, .slice none 0 0] 37)) (w.heap.size + 1) j v → Wr w3 (w.heap.size + 1) j v := fun j v hv => by rw [hw3]; exact (hv.kept (m1.grow none) (by simp)).kept (World.grownBy_alloc w1 _ none) (by simp)
  obtain ⟨y0, g0⟩ := zz 0 (.int .i64 0) ⟨by go_simp, by go_simp⟩
  obtain ⟨y1, g1⟩ := zz 1 (.int .i64 0) ⟨by go_simp, by go_simp⟩
  obtain ⟨y2, g2⟩ := zz 2 (.int .i64 0) ⟨by go_simp, by go_simp⟩
  obtain ⟨y3, g3⟩ := zz 3 (.slice none 0 0) ⟨by go_simp, by go_simp⟩
  obtain ⟨y4, g4⟩ := zz 4 (.slice none 0 0) ⟨by go_simp, by go_simp⟩
  have n1 : ¬ w1.heap.size = w.heap.size + 1 := by omega
  have n2 : ¬ w.heap.size + 1 = w1.heap.size := by omega
  clear m1 mcc zz hw3
  go_wp2_with (refine wpList_store_row rfl 77 (.tmp 8) (.tmp 15) rfl w1.heap.size c rfl rfl 77 z (heap_alloc_last _ _) (by rw [Hc.out.size rfl]; exact Hz.out.2.1) (by rw [Hc.out.size rfl, Hz.out.2.2]) (Hc.out.one rfl rfl rfl rfl rfl) ?_; rw [World.setRow_alloc_new, ← Hw3.out])
  refine bodyPost_ret (v := .tuple #[.agg #[.int .i64 0, .int .i64 0, .int .i64 0, .slice none 0 0, .slice none 0 0], .int .i64 code]) (by simp [results, Try.results23, go_sem, *]) rfl ⟨rfl, ?_⟩
  have hg : w3.grownBy (((((w3.setCell ⟨w.heap.size + 1, 0, none⟩ (.int .i64 0)).setCell ⟨w.heap.size + 1, 1, none⟩ (.int .i64 0)).setCell ⟨w.heap.size + 1, 2, none⟩ (.int .i64 0)).setCell ⟨w.heap.size + 1, 3, none⟩ (.slice none 0 0)).setCell ⟨w.heap.size + 1, 4, none⟩ (.slice none 0 0)) (some (w.heap.size + 1)) := gr_set (gr_set (gr_set (gr_set (gr_set (grown_refl _ _) _ _) _ _) _ _) _ _) _ _
  have h3 : More w w3 := by rw [Hw3.out]; exact Hm1.out.alloc _ _
  exact h3.grownBy hg (fun b hb => by have := Option.some.inj hb; omega)

set_option maxHeartbeats 2000000 in
theorem seq_run_ok (p : Prg) (l : Loc) (m : Mem) (ml : MLoc) (fuel : Nat) (w : World) (hp : PIn w p l) (hm : MIn w m ml) (hok : p.Ok 8000 10) (hn64 : ∀ i, i < p.cl → B64 (p.ins i).n) (hfit : FitsOk p.rl p.log m.ml m.len) (hwd : ∀ j, j < m.ml → ∀ i, i < m.len j → B64 (m.wd j i)) (hfuel : fuel ≤ 40000) :
    Calls Try.prog 23 #[.agg #[.slice l.ra p.rl l.rc, .slice l.ca p.cl l.cc], .slice ml.ma m.ml ml.mc, .int .i64 fuel] w fun e w' => ∃ (v : Value) (mm : Mem), e = .returned (.tuple #[v, .int .i64 0]) ∧ ShownAt w' v ⟨(playI p m fuel).fin, (playI p m fuel).val, (playI p m fuel).steps, (playI p m fuel).seen, mm⟩ ∧ mm.Like (playI p m fuel).mem ∧ More w w' := by
  have hml : m.ml = p.rl := hfit.2.1
  have hlen : ∀ i, i < m.ml → (m.len i : Int) = wordsI (p.log i) := fun i hi => hfit.2.2 i (by omega)
  have hpos : ∀ i, i < m.ml → 0 < m.len i ∧ m.len i ≤ 64 := fun i hi => by
    have h1 := hlen i hi
    have h2 := hok.1.2 i (by omega)
    have h3 := two_pow_le (k := (p.log i).toNat) (by omega)
    unfold wordsI at h1
    omega
  have hm6 : m.ml ≤ 6 := by rw [hml]; exact hok.1.1
  have hcl : 1 ≤ p.cl ∧ p.cl ≤ 8000 := ⟨hok.2.1, hok.2.2.1⟩
  have hinv : Inv p m 0 ⟨0, fun _ => 0, m, []⟩ := ⟨Nat.zero_le _, fun _ _ => B64_zero, rfl, fun _ => rfl, hwd, by simp⟩
  obtain ⟨z, z1, z2, z3, z4⟩ := zrow
  have Hz : Hid (MC z (.slice none 0 0) (.slice none 0 0) (ms0 0) ∧ (Try.prog.info? 77).map (·.size) = some 411 ∧ z.size = 411) := ⟨z3, z4, z3.size rfl⟩
  obtain ⟨ra, rb, ro, rc, ca, cb, co, cc⟩ := l
  obtain rfl : ca = some ⟨cb, co, none⟩ := hp.hc (by omega)
  dsimp only
  have H : Hid (PIn w p ⟨ra, rb, ro, rc, some ⟨cb, co, none⟩, cb, co, cc⟩ ∧ (∀ i, i < p.cl → InsOk p.rl p.log p.cl 10 (p.ins i)) ∧ (∀ i, i < p.cl → B64 (p.ins i).n) ∧ m.ml = p.rl ∧ (∀ i, i < m.ml → (m.len i : Int) = wordsI (p.log i)) ∧ (∀ i, i < m.ml → 0 < m.len i ∧ m.len i ≤ 64) ∧ m.ml ≤ 6 ∧ (1 ≤ p.cl ∧ p.cl ≤ 8000) ∧ fuel ≤ 40000 ∧ Inv p m 0 ⟨0, fun _ => 0, m, []⟩) :=
    ⟨hp, hok.2.2.2, hn64, hml, hlen, hpos, hm6, hcl, hfuel, hinv⟩
  have HN : Hid (∀ w1, More w w1 → Calls Try.prog 45 #[.agg #[.slice ra p.rl rc, .slice (some ⟨cb, co, none⟩) p.cl cc], .slice ml.ma m.ml ml.mc, .int .i64 fuel] w1 fun e w' => ∃ (c : Array Value) (W S : Nat → Int), e = .returned (.tuple #[.agg c, .int .i64 0]) ∧ MC c (.slice ra p.rl rc) (.slice (some ⟨cb, co, none⟩) p.cl cc) { ms0 fuel with wd := W, st := S } ∧
      (∀ j, j ≤ m.ml → S j = (baseN m.len j : Int)) ∧ (∀ j, j < m.ml → ∀ i, i < m.len j → W (baseN m.len j + i) = m.wd j i) ∧ More w1 w') :=
    fun w1 m1 => seq_new p ⟨ra, rb, ro, rc, some ⟨cb, co, none⟩, cb, co, cc⟩ m ml fuel w1 (hp.more m1) (hm.more m1) hok hfit hpos (by omega) (by omega)
  obtain ⟨R, HR⟩ : ∃ R, Hid (playI p m fuel = R) := ⟨_, rfl⟩
  rw [HR.out]
  obtain ⟨P, hP⟩ : ∃ P, P = fun (e : Ending) (w' : World) => ∃ (v : Value) (mm : Mem), e = .returned (.tuple #[v, .int .i64 0]) ∧ ShownAt w' v ⟨R.fin, R.val, R.steps, R.seen, mm⟩ ∧ mm.Like R.mem ∧ More w w' := ⟨_, rfl⟩
  rw [← hP]
  have HP : Hid (P = fun (e : Ending) (w' : World) => ∃ (v : Value) (mm : Mem), e = .returned (.tuple #[v, .int .i64 0]) ∧ ShownAt w' v ⟨R.fin, R.val, R.steps, R.seen, mm⟩ ∧ mm.Like R.mem ∧ More w w') := hP
  obtain ⟨va, hva⟩ : ∃ va, ml.ma = va := ⟨_, rfl⟩
  obtain ⟨vc, hvc⟩ : ∃ vc, ml.mc = vc := ⟨_, rfl⟩
  rw [hva, hvc] at HN ⊢
  clear hp hm hok hn64 hfit hwd hfuel hml hlen hpos hm6 hcl hinv z3 z4 hP hva hvc
  go_enter Try.func23, Try.ntmps23
  go_wp2_with (fail)
  refine (HN.out _ (((More.refl _).alloc _ _).alloc _ _)).mono ?_
  rintro e w1 ⟨c, W, S, rfl, mcc, hS, hW, m1⟩
  obtain ⟨w3, hw3⟩ : ∃ w3, w3 = w1.alloc (.cells c 77) := ⟨_, rfl⟩
  have Hw3 : Hid (w3 = w1.alloc (.cells c 77)) := hw3
  have Hc : Hid (MC c (.slice ra p.rl rc) (.slice (some ⟨cb, co, none⟩) p.cl cc) { ms0 fuel with wd := W, st := S } ∧ (∀ j, j ≤ m.ml → S j = (baseN m.len j : Int)) ∧ (∀ j, j < m.ml → ∀ i, i < m.len j → W (baseN m.len j + i) = m.wd j i)) := ⟨mcc, hS, hW⟩
  have s1 : w.heap.size + 2 ≤ w1.heap.size := by have := m1.size; have := size_alloc2 w (.cells #[.slice ra p.rl rc, .slice (some ⟨cb, co, none⟩) p.cl cc] 29) (.cells #[.int .i64 0, .int .i64 0, .int .i64 0, .slice none 0 0, .slice none 0 0] 37); omega
  have Hm3 : Hid (More w w3) := by rw [show Hid (More w w3) = More w w3 from rfl, hw3]; exact ((((More.refl _).alloc _ _).alloc _ _).trans m1).alloc _ _
  have zz : ∀ j v, Wr ((w.alloc (.cells #[.slice ra p.rl rc, .slice (some ⟨cb, co, none⟩) p.cl cc] 29)).alloc (.cells #[.int .i64 0, .int .i64 0, .int .i64 0, .slice none 0 0, .slice none 0 0] 37)) (w.heap.size + 1) j v → Wr w3 (w.heap.size + 1) j v := fun j v hv => by rw [hw3]; exact (hv.kept (m1.grow none) (by simp)).kept (World.grownBy_alloc w1 _ none) (by simp)
  have HZ : Hid (Wr w3 (w.heap.size + 1) 0 (.int .i64 0) ∧ Wr w3 (w.heap.size + 1) 1 (.int .i64 0) ∧ Wr w3 (w.heap.size + 1) 2 (.int .i64 0) ∧ Wr w3 (w.heap.size + 1) 3 (.slice none 0 0) ∧ Wr w3 (w.heap.size + 1) 4 (.slice none 0 0)) :=
    ⟨zz 0 _ ⟨by go_simp, by go_simp⟩, zz 1 _ ⟨by go_simp, by go_simp⟩, zz 2 _ ⟨by go_simp, by go_simp⟩, zz 3 _ ⟨by go_simp, by go_simp⟩, zz 4 _ ⟨by go_simp, by go_simp⟩⟩
  have HA : Hid ((∃ (x : Ms) (se : List Se), Run w3 w1.heap.size (.slice ra p.rl rc) (.slice (some ⟨cb, co, none⟩) p.cl cc) x se ∧ ((∃ k s, Way p m fuel fuel R x se k s) ∨ (x.ended = true ∧ Fin_ m R x se)))) := by
    refine ⟨{ ms0 fuel with wd := W, st := S }, [], ⟨.slice none 0 0, ⟨c, by rw [hw3]; exact heap_alloc_last _ _, mcc⟩, World.ownsRow_nil _ _ _ _, fun q e => by cases e⟩, .inl ⟨0, ⟨0, fun _ => 0, m, []⟩, by omega, ⟨rfl, ⟨hW, hS⟩, rfl, rfl, rfl, rfl, rfl, rfl⟩, rfl, H.out.2.2.2.2.2.2.2.2.2, HR.out⟩⟩
  clear m1 mcc zz hw3 hS hW HN
  go_wp2_with (refine wpList_store_row rfl 77 (.tmp 8) (.tmp 15) rfl w1.heap.size c rfl rfl 77 z (heap_alloc_last _ _) (by rw [Hc.out.1.size rfl]; exact Hz.out.2.1) (by rw [Hc.out.1.size rfl, Hz.out.2.2]) (Hc.out.1.one rfl rfl rfl rfl rfl) ?_; rw [World.setRow_alloc_new, ← Hw3.out])
  go_loopg [] fuel (fun g wr => ∃ (x : Ms) (se : List Se), Run wr w1.heap.size (.slice ra p.rl rc) (.slice (some ⟨cb, co, none⟩) p.cl cc) x se ∧ Below w1.heap.size w3 wr ∧ ((∃ k s, Way p m fuel g R x se k s) ∨ (x.ended = true ∧ Fin_ m R x se)))
  case atStart =>
    obtain ⟨x, se, h1, h2⟩ := HA.out
    exact ⟨x, se, h1, Below.refl _ _, h2⟩
  case round =>
    obtain ⟨x, se, hrun, hbel, hway⟩ := hrel
    have HB : Hid (Below w1.heap.size w3 wr) := hbel
    have HG : Hid (Calls Try.prog 46 #[.pointer (some ⟨w1.heap.size, 0, none⟩)] wr fun e w' => Below w1.heap.size wr w' ∧ ∃ (b : Bool) (x' : Ms), e = .returned (.bool b) ∧ Run w' w1.heap.size (.slice ra p.rl rc) (.slice (some ⟨cb, co, none⟩) p.cl cc) x' se ∧ ((b = false ∧ Fin_ m R x' se) ∨ (b = true ∧ ∃ g' k s, gk = g' + 1 ∧ Way p m fuel gk R x' se k s ∧ s.at_ < p.cl))) :=
      goesOn_all p m fuel gk R wr w1.heap.size (.slice ra p.rl rc) (some ⟨cb, co, none⟩) cc x se H.out.2.2.2.2.2.2.2.2.1 hrun hway
    clear hrun hbel hway HA
    go_wp2_with (fail)
    refine HG.out.mono ?_
    rintro e w4 ⟨b4, b, x', rfl, r4, hcase⟩
    have HB4 : Hid (Below w1.heap.size w3 w4) := Below.trans HB.out b4
    have HR4 : Hid (Run w4 w1.heap.size (.slice ra p.rl rc) (.slice (some ⟨cb, co, none⟩) p.cl cc) x' se) := r4
    clear b4 r4 HG HB
    rcases hcase with ⟨rfl, hfin⟩ | ⟨rfl, g', k, s, rfl, hway, hat⟩
    · have HF : Hid (Fin_ m R x' se) := hfin
      clear hfin
      go_wp2_with (fail)
      refine (seq_told w4 w1.heap.size ra p.rl rc _ x' se (baseN m.len) HR4.out (by rw [← H.out.2.2.2.1]; exact H.out.2.2.2.2.2.2.1) (fun j hj => HF.out.w.st j (by rw [H.out.2.2.2.1]; exact hj)) (fun j hj => by have := (H.out.2.2.2.2.2.1 j (by rw [H.out.2.2.2.1]; exact hj)).1; simp only [baseN]; omega) (fun j hj => by have := (H.out.2.2.2.2.2.1 j (by rw [H.out.2.2.2.1]; exact hj)).2; simp only [baseN]; omega) (fun j hj => by have h1 := baseN_le m.len j (fun i hi => (H.out.2.2.2.2.2.1 i (by rw [H.out.2.2.2.1]; omega)).2); have h2 := H.out.2.2.2.2.2.2.1; have h3 := H.out.2.2.2.1; omega) (by have := HF.out.short; omega)).mono ?_
      rintro e w5 ⟨v, rfl, hsh, b5⟩
      have hb5 : Below w1.heap.size w3 w5 := Below.trans HB4.out b5
      have HSH : Hid (∀ (B : Nat) (w'' : World), B < w1.heap.size → w5.grownBy w'' (some B) → ShownAt w'' v ⟨x'.fin, x'.val, x'.steps, se, ⟨p.rl, fun j => baseN m.len (j + 1) - baseN m.len j, fun j i => x'.wd (baseN m.len j + i)⟩⟩) := hsh
      obtain ⟨sv, lm, hv, hs1, hs2⟩ := hsh (w.heap.size + 1) w5 (by omega) (grown_refl _ _)
      clear hsh
      dsimp only at hv
      subst hv
      have HB5 : Hid (Below w1.heap.size w3 w5) := hb5
      obtain ⟨sa, sb, so, sc, rfl, _, _, _⟩ := hs1
      have kept : ∀ j v, Wr w3 (w.heap.size + 1) j v → Wr w5 (w.heap.size + 1) j v := fun j v hv => ⟨by rw [Below.cell hb5 (by dsimp only; omega)]; exact hv.1, by rw [World.frozen?_of_block (Below.block hb5 _ (by dsimp only; omega))]; exact hv.2⟩
      obtain ⟨y0, g0⟩ := kept _ _ HZ.out.1
      obtain ⟨y1, g1⟩ := kept _ _ HZ.out.2.1
      obtain ⟨y2, g2⟩ := kept _ _ HZ.out.2.2.1
      obtain ⟨y3, g3⟩ := kept _ _ HZ.out.2.2.2.1
      obtain ⟨y4, g4⟩ := kept _ _ HZ.out.2.2.2.2
      clear hs2 hb5 b5 kept
      obtain ⟨la, hla⟩ : ∃ la, lm.ma = la := ⟨_, rfl⟩
      obtain ⟨lc, hlc⟩ : ∃ lc, lm.mc = lc := ⟨_, rfl⟩
      rw [hla, hlc] at HSH ⊢
      clear hla hlc
      go_wp2
      refine bodyPost_ret (v := .tuple #[.agg #[.int .i64 x'.fin, .int .i64 x'.val, .int .i64 x'.steps, .slice sa se.length sc, .slice la p.rl lc], .int .i64 0]) (by simp [results, Try.results23, go_sem, *]) rfl ?_
      rw [HP.out]
      have hg : w5.grownBy (((((w5.setCell ⟨w.heap.size + 1, 0, none⟩ (.int .i64 x'.fin)).setCell ⟨w.heap.size + 1, 1, none⟩ (.int .i64 x'.val)).setCell ⟨w.heap.size + 1, 2, none⟩ (.int .i64 x'.steps)).setCell ⟨w.heap.size + 1, 3, none⟩ (.slice sa se.length sc)).setCell ⟨w.heap.size + 1, 4, none⟩ (.slice la p.rl lc)) (some (w.heap.size + 1)) := gr_set (gr_set (gr_set (gr_set (gr_set (grown_refl _ _) _ _) _ _) _ _) _ _) _ _
      have hsh := HSH.out (w.heap.size + 1) _ (by omega) hg
      have esh : (⟨x'.fin, x'.val, x'.steps, se, ⟨p.rl, fun j => baseN m.len (j + 1) - baseN m.len j, fun j i => x'.wd (baseN m.len j + i)⟩⟩ : Sh) = ⟨R.fin, R.val, R.steps, R.seen, ⟨p.rl, fun j => baseN m.len (j + 1) - baseN m.len j, fun j i => x'.wd (baseN m.len j + i)⟩⟩ := by rw [HF.out.fin, HF.out.val, HF.out.steps, HF.out.seen]
      rw [esh] at hsh
      have hmore : More w w5 := Below.trans Hm3.out (Below.mono HB5.out (by omega))
      refine ⟨.agg #[.int .i64 x'.fin, .int .i64 x'.val, .int .i64 x'.steps, .slice sa se.length sc, .slice la p.rl lc], _, rfl, hsh, ?_, hmore.grownBy hg (fun b hb => by have := Option.some.inj hb; omega)⟩
      have := fin_like HF.out
      rw [H.out.2.2.2.1] at this
      exact this
    · have HW : Hid (Way p m fuel (g' + 1) R x' se k s ∧ s.at_ < p.cl) := ⟨hway, hat⟩
      clear hway hat
      have hcb : cb < w1.heap.size := by
        have h0 := (H.out.1.code 0 (by have := H.out.2.2.2.2.2.2.2.1; omega)).1
        have := cell_block h0
        dsimp only at this
        omega
      have hcode := H.out.1.code s.at_ HW.out.2
      have cellsB : ∀ (a : Addr) (v : Value), a.block < w.heap.size → w.cell? a = some v → w4.cell? a = some v := fun a v ha hc => by
        rw [Below.cell HB4.out (by omega)]; exact Hm3.out.cell hc
      have hcb2 : cb < w.heap.size := cell_block hcode.1
      have q0 := cellsB _ _ hcb2 hcode.1
      have q1 := cellsB _ _ hcb2 hcode.2.1
      have q2 := cellsB _ _ hcb2 hcode.2.2.1
      have q3 := cellsB _ _ hcb2 hcode.2.2.2.1
      have q4 := cellsB _ _ hcb2 hcode.2.2.2.2
      dsimp only at q0 q1 q2 q3 q4
      have hkk := HW.out.1.kg
      have hsl := HW.out.1.inv.seen
      have hB0 := seq_begin _ _ _ _ _ w4 w1.heap.size (.slice ra p.rl rc) cb co p.cl cc s.at_ x' se (by rw [HW.out.1.seen]; have := H.out.2.2.2.2.2.2.2.2.1; omega) HW.out.1.rel.next HW.out.2 H.out.2.2.2.2.2.2.2.1.2 (by rw [HW.out.1.rel.steps]; omega) (by rw [HW.out.1.rel.steps]; have := H.out.2.2.2.2.2.2.2.2.1; omega) hcb q0 q1 q2 q3 q4 HR4.out
      have hD0 : ∀ w6, Run w6 w1.heap.size (.slice ra p.rl rc) (.slice (some ⟨cb, co, none⟩) p.cl cc) { x' with steps := x'.steps + 1, next := (s.at_ : Int) + 1 } (se ++ [⟨1, s.at_, 0⟩]) → Calls Try.prog 47 #[.pointer (some ⟨w1.heap.size, 0, none⟩), .agg #[.int .i64 (p.ins s.at_).op, .int .i64 (p.ins s.at_).a, .int .i64 (p.ins s.at_).b, .int .i64 (p.ins s.at_).c, .int .i64 (p.ins s.at_).n]] w6 fun e w' =>
          e = .returned (.tuple #[]) ∧ Below w1.heap.size w6 w' ∧ ∃ x2, Run w' w1.heap.size (.slice ra p.rl rc) (.slice (some ⟨cb, co, none⟩) p.cl cc) x2 (stepI p s).1.seen ∧ ((∃ k s', Way p m fuel g' R x2 (stepI p s).1.seen k s') ∨ (x2.ended = true ∧ Fin_ m R x2 (stepI p s).1.seen)) := by
        intro w6 r6
        have hrel := HW.out.1.rel
        rw [HW.out.1.seen] at r6
        refine (seq_do p m fuel s (k + 1) { x' with steps := x'.steps + 1, next := (s.at_ : Int) + 1 } w6 w1.heap.size _ _ (H.out.2.1 _ HW.out.2) H.out.2.2.2.1 H.out.2.2.2.2.2.2.1 H.out.2.2.2.2.1 H.out.2.2.2.2.2.1 HW.out.1.inv.len (by have := H.out.2.2.2.2.2.2.2.2.1; omega) ⟨hrel.r, ⟨hrel.w.wd, hrel.w.st⟩, by push_cast; rfl, hrel.fin, hrel.val, by dsimp only; rw [hrel.steps]; push_cast; rfl, hrel.fuel, hrel.ended⟩ r6).mono ?_
        rintro e w7 ⟨rfl, b7, x2, r7, ha⟩
        exact ⟨rfl, b7, x2, r7, way_next HW.out.1 HW.out.2 (H.out.2.1 _ HW.out.2) (H.out.2.2.1 _ HW.out.2) H.out.2.2.2.1 H.out.2.2.2.2.2.2.2.2.1 ha⟩
      clear q0 q1 q2 q3 q4 hcode cellsB hcb hcb2 hkk hsl
      obtain ⟨I, hI⟩ : ∃ I, p.ins s.at_ = I := ⟨_, rfl⟩
      rw [hI] at hB0 hD0
      obtain ⟨op, a, b, c', n⟩ := I
      dsimp only at hB0 hD0
      obtain ⟨se2, hse2⟩ : ∃ se2, (stepI p s).1.seen = se2 := ⟨_, rfl⟩
      rw [hse2] at hD0
      have HB0 := hid_of hB0
      have HD0 := hid_of hD0
      clear hB0 hD0 hI hse2
      go_wp2_with (fail)
      refine HB0.out.mono ?_
      rintro e w6 ⟨rfl, r6, b6⟩
      have HD1 := hid_of (HD0.out w6 r6)
      have HB6 : Hid (Below w1.heap.size w3 w6) := Below.trans HB4.out b6
      clear r6 b6 HB0 HD0
      go_wp2_with (fail)
      refine HD1.out.mono ?_
      rintro e w7 ⟨rfl, b7, x2, r7, hway⟩
      have HB7 : Hid (Below w1.heap.size w3 w7) := Below.trans HB6.out b7
      have HW7 := hid_of (And.intro r7 hway)
      clear r7 b7 hway HD1
      go_wp2
      go_roundg g'
      case measure => omega
      case rel => exact ⟨x2, se2, HW7.out.1, HB7.out, HW7.out.2⟩
end Go.Proofs.Ytbfhchhggkpbdaa

/-
  What package spec's Run comes to: the run that chapter 4 says, or what is wrong.
-/
namespace Go.Proofs.Ytbfhchhggkpbdaa
open Go.RowKit
set_option linter.unusedVariables false
set_option linter.unusedSimpArgs false
set_option maxRecDepth 8000

set_option maxHeartbeats 1000000 in
theorem spec_run_wrong (p : Prg) (l : Loc) (ma : Option Addr) (ml mc : Nat) (sv : Value) (fuel code : Int) (w : World) (hc : ¬ code = 0)
    (hnew : ∀ w1, More w w1 → Calls Try.prog 45 #[.agg #[.slice l.ra p.rl l.rc, .slice l.ca p.cl l.cc], .slice ma ml mc, .int .i64 fuel] w1 fun e w' => ∃ z, MC z (.slice none 0 0) (.slice none 0 0) (ms0 0) ∧ e = .returned (.tuple #[.agg z, .int .i64 code]) ∧ More w1 w') :
    Calls Try.prog 28 #[.agg #[.slice l.ra p.rl l.rc, .slice l.ca p.cl l.cc], .slice ma ml mc, sv, .int .i64 fuel] w fun e w' => e = .returned (.tuple #[.agg #[.int .i64 0, .int .i64 0, .int .i64 0, .slice none 0 0, .slice none 0 0], .int .i64 code]) ∧ More w w' := by
  obtain ⟨z, z1, z2, z3, z4⟩ := zrow
  have HN := hid_of hnew
  have Hz : Hid (MC z (.slice none 0 0) (.slice none 0 0) (ms0 0) ∧ (Try.prog.info? 77).map (·.size) = some 411 ∧ z.size = 411) := ⟨z3, z4, z3.size rfl⟩
  clear hnew z3 z4
  go_enter Try.func28, Try.ntmps28
  go_wp2_with (fail)
  refine (HN.out _ (((More.refl _).alloc _ _).alloc _ _)).mono ?_
  rintro e w1 ⟨c, mcc, rfl, m1⟩
  have Hc : Hid (MC c (.slice none 0 0) (.slice none 0 0) (ms0 0)) := mcc
  have s1 : w.heap.size + 2 ≤ w1.heap.size := by have := m1.size; have := size_alloc2 w (.cells #[.slice l.ra p.rl l.rc, .slice l.ca p.cl l.cc] 29) (.cells #[.int .i64 0, .int .i64 0, .int .i64 0, .slice none 0 0, .slice none 0 0] 37); omega
  have Hm1 : Hid (More w w1) := (((More.refl _).alloc _ _).alloc _ _).trans m1
  obtain ⟨w3, hw3⟩ : ∃ w3, w3 = w1.alloc (.cells c 77) := ⟨_, rfl⟩
  have Hw3 : Hid (w3 = w1.alloc (.cells c 77)) := hw3
  have zz : ∀ j v, Wr ((w.alloc (.cells #[.slice l.ra p.rl l.rc, .slice l.ca p.cl l.cc] 29)).alloc (.cells #[.int .i64 0, .int .i64 0, .int .i64 0, .slice none 0 0, .slice none 0 0] 37)) (w.heap.size + 1) j v → Wr w3 (w.heap.size + 1) j v := fun j v hv => by rw [hw3]; exact (hv.kept (m1.grow none) (by simp)).kept (World.grownBy_alloc w1 _ none) (by simp)
  obtain ⟨y0, g0⟩ := zz 0 (.int .i64 0) ⟨by go_simp, by go_simp⟩
  obtain ⟨y1, g1⟩ := zz 1 (.int .i64 0) ⟨by go_simp, by go_simp⟩
  obtain ⟨y2, g2⟩ := zz 2 (.int .i64 0) ⟨by go_simp, by go_simp⟩
  obtain ⟨y3, g3⟩ := zz 3 (.slice none 0 0) ⟨by go_simp, by go_simp⟩
  obtain ⟨y4, g4⟩ := zz 4 (.slice none 0 0) ⟨by go_simp, by go_simp⟩
  have n1 : ¬ w1.heap.size = w.heap.size + 1 := by omega
  have n2 : ¬ w.heap.size + 1 = w1.heap.size := by omega
  clear m1 mcc zz hw3
  go_wp2_with (refine wpList_store_row rfl 77 (.tmp 10) (.tmp 18) rfl w1.heap.size c rfl rfl 77 z (heap_alloc_last _ _) (by rw [Hc.out.size rfl]; exact Hz.out.2.1) (by rw [Hc.out.size rfl, Hz.out.2.2]) (Hc.out.one rfl rfl rfl rfl rfl) ?_; rw [World.setRow_alloc_new, ← Hw3.out])
  refine bodyPost_ret (v := .tuple #[.agg #[.int .i64 0, .int .i64 0, .int .i64 0, .slice none 0 0, .slice none 0 0], .int .i64 code]) (by simp [results, Try.results28, go_sem, *]) rfl ⟨rfl, ?_⟩
  have hg : w3.grownBy (((((w3.setCell ⟨w.heap.size + 1, 0, none⟩ (.int .i64 0)).setCell ⟨w.heap.size + 1, 1, none⟩ (.int .i64 0)).setCell ⟨w.heap.size + 1, 2, none⟩ (.int .i64 0)).setCell ⟨w.heap.size + 1, 3, none⟩ (.slice none 0 0)).setCell ⟨w.heap.size + 1, 4, none⟩ (.slice none 0 0)) (some (w.heap.size + 1)) := gr_set (gr_set (gr_set (gr_set (gr_set (grown_refl _ _) _ _) _ _) _ _) _ _) _ _
  have h3 : More w w3 := by rw [Hw3.out]; exact Hm1.out.alloc _ _
  exact h3.grownBy hg (fun b hb => by have := Option.some.inj hb; omega)

set_option maxHeartbeats 1000000 in
theorem spec_run_script (p : Prg) (l : Loc) (ma : Option Addr) (ml mc : Nat) (sa : Option Addr) (sb so sn sc : Nat) (L : List Int) (fuel : Int) (w : World) (hL : L.length = sn) (hs : SIn w sa sb so L) (hbad : ¬ ScOk L)
    (hnew : ∀ w1, More w w1 → Calls Try.prog 45 #[.agg #[.slice l.ra p.rl l.rc, .slice l.ca p.cl l.cc], .slice ma ml mc, .int .i64 fuel] w1 fun e w' => ∃ c rv cv x, x.tl 411 = none ∧ rv.oneCell' = true ∧ cv.oneCell' = true ∧ x.sv.oneCell' = true ∧ x.mv.oneCell' = true ∧ MC c rv cv x ∧ e = .returned (.tuple #[.agg c, .int .i64 0]) ∧ More w1 w') :
    Calls Try.prog 28 #[.agg #[.slice l.ra p.rl l.rc, .slice l.ca p.cl l.cc], .slice ma ml mc, .slice sa sn sc, .int .i64 fuel] w fun e w' => e = .returned (.tuple #[.agg #[.int .i64 0, .int .i64 0, .int .i64 0, .slice none 0 0, .slice none 0 0], .int .i64 3]) ∧ More w w' := by
  obtain ⟨z, z1, z2, z3, z4⟩ := zrow
  have HN := hid_of hnew
  have HS := hid_of (And.intro hL (And.intro hs hbad))
  have Hz : Hid (MC z (.slice none 0 0) (.slice none 0 0) (ms0 0) ∧ (Try.prog.info? 77).map (·.size) = some 411 ∧ z.size = 411) := ⟨z3, z4, z3.size rfl⟩
  clear hnew z3 z4 hL hs hbad
  go_enter Try.func28, Try.ntmps28
  go_wp2_with (fail)
  refine (HN.out _ (((More.refl _).alloc _ _).alloc _ _)).mono ?_
  rintro e w1 ⟨c, rv, cv, x, hx1, hx2, hx3, hx4, hx5, mcc, rfl, m1⟩
  have Hc := hid_of (And.intro mcc (And.intro (mcc.size hx1) (mcc.one hx2 hx3 hx4 hx5 hx1)))
  have s1 : w.heap.size + 2 ≤ w1.heap.size := by have := m1.size; have := size_alloc2 w (.cells #[.slice l.ra p.rl l.rc, .slice l.ca p.cl l.cc] 29) (.cells #[.int .i64 0, .int .i64 0, .int .i64 0, .slice none 0 0, .slice none 0 0] 37); omega
  have Hm1 : Hid (More w w1) := (((More.refl _).alloc _ _).alloc _ _).trans m1
  obtain ⟨w3, hw3⟩ : ∃ w3, w3 = w1.alloc (.cells c 77) := ⟨_, rfl⟩
  have Hw3 : Hid (w3 = w1.alloc (.cells c 77)) := hw3
  have zz : ∀ j v, Wr ((w.alloc (.cells #[.slice l.ra p.rl l.rc, .slice l.ca p.cl l.cc] 29)).alloc (.cells #[.int .i64 0, .int .i64 0, .int .i64 0, .slice none 0 0, .slice none 0 0] 37)) (w.heap.size + 1) j v → Wr w3 (w.heap.size + 1) j v := fun j v hv => by rw [hw3]; exact (hv.kept (m1.grow none) (by simp)).kept (World.grownBy_alloc w1 _ none) (by simp)
  obtain ⟨y0, g0⟩ := zz 0 (.int .i64 0) ⟨by go_simp, by go_simp⟩
  obtain ⟨y1, g1⟩ := zz 1 (.int .i64 0) ⟨by go_simp, by go_simp⟩
  obtain ⟨y2, g2⟩ := zz 2 (.int .i64 0) ⟨by go_simp, by go_simp⟩
  obtain ⟨y3, g3⟩ := zz 3 (.slice none 0 0) ⟨by go_simp, by go_simp⟩
  obtain ⟨y4, g4⟩ := zz 4 (.slice none 0 0) ⟨by go_simp, by go_simp⟩
  have n1 : ¬ w1.heap.size = w.heap.size + 1 := by omega
  have n2 : ¬ w.heap.size + 1 = w1.heap.size := by omega
  have h3 : More w w3 := by rw [hw3]; exact Hm1.out.alloc _ _
  have hA := spec_allowed sa sb so sn sc L HS.out.1 w3 (HS.out.2.1.more h3)
  have HA := hid_of hA
  have H3 := hid_of h3
  clear m1 mcc zz hw3 hx1 hx2 hx3 hx4 hx5 hA h3
  go_wp2_with (refine wpList_store_row rfl 77 (.tmp 10) (.tmp 18) rfl w1.heap.size c rfl rfl 77 z (heap_alloc_last _ _) (by rw [Hc.out.2.1]; exact Hz.out.2.1) (by rw [Hc.out.2.1, Hz.out.2.2]) Hc.out.2.2 ?_; rw [World.setRow_alloc_new, ← Hw3.out])
  refine HA.out.mono ?_
  rintro e w4 ⟨r, rfl, hr, rfl⟩
  cases r with
  | true => exact absurd (hr.1 rfl) HS.out.2.2
  | false =>
    clear hr HA
    go_wp2
    refine bodyPost_ret (v := .tuple #[.agg #[.int .i64 0, .int .i64 0, .int .i64 0, .slice none 0 0, .slice none 0 0], .int .i64 3]) (by simp [results, Try.results28, go_sem, *]) rfl ⟨rfl, ?_⟩
    have hg : w4.grownBy (((((w4.setCell ⟨w.heap.size + 1, 0, none⟩ (.int .i64 0)).setCell ⟨w.heap.size + 1, 1, none⟩ (.int .i64 0)).setCell ⟨w.heap.size + 1, 2, none⟩ (.int .i64 0)).setCell ⟨w.heap.size + 1, 3, none⟩ (.slice none 0 0)).setCell ⟨w.heap.size + 1, 4, none⟩ (.slice none 0 0)) (some (w.heap.size + 1)) := gr_set (gr_set (gr_set (gr_set (gr_set (grown_refl _ _) _ _) _ _) _ _) _ _) _ _
    exact H3.out.grownBy hg (fun b hb => by have := Option.some.inj hb; omega)
end Go.Proofs.Ytbfhchhggkpbdaa

/-
  What package spec's Run comes to where nothing is wrong: the run that chapter 4 says.
-/
namespace Go.Proofs.Ytbfhchhggkpbdaa
open Go.RowKit
set_option linter.unusedVariables false
set_option linter.unusedSimpArgs false
set_option maxRecDepth 8000

theorem wpList_build_eq {P : Program} {ops : Array Oper} {rest : List Oper} {o : Oper} {a : Act} {w : World} {Q : Exit → Act → World → Prop} (hg : o.guard = none) (t : TypeId) (parts : Array (Nat × Operand)) (ho : o.op = .build t parts) (C : Array Value)
    (hf : P.built t (parts.map fun (i, x) => (i, a.eval x)).toList = some C) (h : wpList P ops Q rest (a.put o.dst (.agg C)) w) : wpList P ops Q (o :: rest) a w := by
  refine wpList_plain hg fun K hK => ?_
  unfold Oper.wp execOp
  simp only [ho, Sem.run_bind, run_build w t _ C hf, Result.andThen_ok]
  exact hK _ _ h

theorem zrow96 : ∃ Z : Array Value, (∀ w, (zeroValue 96).run Try.prog w = .ok (.agg Z) w) ∧ Z.size = 1578 ∧ (Try.prog.info? 96).map (·.size) = some 1578 := by
  obtain ⟨h1, h2⟩ := zero_of_info zero96
  exact ⟨_, h1, by simp [rowS], h2⟩

theorem allI_N {p : Prg} {m : Mem} (hrl : m.ml = p.rl) (hlen : ∀ i, i < m.ml → (m.len i : Int) = wordsI (p.log i)) : allI p = (baseN m.len m.ml : Int) := by
  unfold allI
  rw [← hrl]
  exact (base_eq p m hlen m.ml (Nat.le_refl _)).symm

theorem cellF_one {rv cv : Value} {x : Ms} (i : Nat) (h0 : rv.oneCell' = true) (h1 : cv.oneCell' = true) (h2 : x.sv.oneCell' = true) (h3 : x.mv.oneCell' = true) : (cellF rv cv x i).oneCell' = true := by
  unfold cellF
  by_cases e0 : i = 0
  · rw [if_pos e0]; exact h0
  rw [if_neg e0]
  by_cases e1 : i = 1
  · rw [if_pos e1]; exact h1
  rw [if_neg e1]
  by_cases e2 : i = 2
  · rw [if_pos e2]; rfl
  rw [if_neg e2]
  by_cases e3 : i = 3
  · rw [if_pos e3]; rfl
  rw [if_neg e3]
  by_cases e4 : i = 4
  · rw [if_pos e4]; rfl
  rw [if_neg e4]
  by_cases e5 : i = 5
  · rw [if_pos e5]; exact h2
  rw [if_neg e5]
  by_cases e6 : i = 6
  · rw [if_pos e6]; exact h3
  rw [if_neg e6]
  by_cases e7 : i < 17
  · rw [if_pos e7]; rfl
  rw [if_neg e7]
  by_cases e8 : i < 401
  · rw [if_pos e8]; rfl
  rw [if_neg e8]
  by_cases e9 : i = 401
  · rw [if_pos e9]; rfl
  rw [if_neg e9]
  by_cases e10 : i = 402
  · rw [if_pos e10]; rfl
  rw [if_neg e10]
  by_cases e11 : i = 403
  · rw [if_pos e11]; rfl
  rw [if_neg e11]
  rfl
theorem tlV_one {q : Tl} (i : Nat) (h : q.sc.oneCell' = true) : (tlV q i).oneCell' = true := by
  unfold tlV
  by_cases e0 : i = 411
  · rw [if_pos e0]; exact h
  rw [if_neg e0]
  by_cases e1 : i = 412
  · rw [if_pos e1]; rfl
  rw [if_neg e1]
  by_cases e2 : i < 797
  · rw [if_pos e2]; rfl
  rw [if_neg e2]
  by_cases e3 : i = 797
  · rw [if_pos e3]; rfl
  rw [if_neg e3]
  by_cases e4 : i < 808
  · rw [if_pos e4]; rfl
  rw [if_neg e4]
  by_cases e5 : i < 1192
  · rw [if_pos e5]; rfl
  rw [if_neg e5]
  by_cases e6 : i = 1192
  · rw [if_pos e6]; rfl
  rw [if_neg e6]
  by_cases e7 : i < 1577
  · rw [if_pos e7]; rfl
  rw [if_neg e7]
  rfl
theorem MC.oneS {c : Array Value} {rv cv : Value} {x : Ms} {q : Tl} (h : MC c rv cv { x with T := 96, tl := tlF q }) (hs : c.size = 1578) (h0 : rv.oneCell' = true) (h1 : cv.oneCell' = true) (h2 : x.sv.oneCell' = true) (h3 : x.mv.oneCell' = true) (h4 : q.sc.oneCell' = true) : c.all (·.oneCell') = true := by
  rw [Array.all_eq_true]
  intro i hi
  by_cases e : i < 411
  · have h5 := h.at_ i e
    rw [Array.getElem?_eq_getElem hi] at h5
    rw [Option.some.inj h5]
    exact cellF_one i h0 h1 h2 h3
  · have h5 := h.tail i (by omega)
    dsimp only at h5
    rw [Array.getElem?_eq_getElem hi, tlF_at q i (by omega)] at h5
    rw [Option.some.inj h5]
    exact tlV_one i h4

set_option maxHeartbeats 2000000 in
theorem spec_run_ok (p : Prg) (l : Loc) (m : Mem) (ml : MLoc) (sa : Option Addr) (sb so sn sc : Nat) (L : List Int) (fuel : Nat) (w : World) (hp : PIn w p l) (hm : MIn w m ml) (hok : p.Ok 8000 10) (hn64 : ∀ i, i < p.cl → B64 (p.ins i).n) (hfit : FitsOk p.rl p.log m.ml m.len) (hwd : ∀ j, j < m.ml → ∀ i, i < m.len j → B64 (m.wd j i)) (hfuel : fuel ≤ 40000) (hL : L.length = sn) (hcap : sn ≤ sc) (hs : SIn w sa sb so L) (hsok : ScOk L) :
    Calls Try.prog 28 #[.agg #[.slice l.ra p.rl l.rc, .slice l.ca p.cl l.cc], .slice ml.ma m.ml ml.mc, .slice sa sn sc, .int .i64 fuel] w fun e w' => ∃ (v : Value) (mm : Mem), e = .returned (.tuple #[v, .int .i64 0]) ∧ ShownAt w' v ⟨(playS p (flatM m) L fuel).fin, (playS p (flatM m) L fuel).val, (playS p (flatM m) L fuel).steps, (playS p (flatM m) L fuel).seen, mm⟩ ∧ mm.ml = m.ml ∧ (∀ j, mm.len j = m.len j) ∧ (∀ j, j < m.ml → ∀ i, i < m.len j → mm.wd j i = (playS p (flatM m) L fuel).wd (baseN m.len j + i)) ∧ More w w' := by
  have hml : m.ml = p.rl := hfit.2.1
  have hlen : ∀ i, i < m.ml → (m.len i : Int) = wordsI (p.log i) := fun i hi => hfit.2.2 i (by omega)
  have hpos : ∀ i, i < m.ml → 0 < m.len i ∧ m.len i ≤ 64 := fun i hi => by
    have h1 := hlen i hi
    have h2 := hok.1.2 i (by omega)
    have h3 := two_pow_le (k := (p.log i).toNat) (by omega)
    unfold wordsI at h1
    omega
  have hm6 : m.ml ≤ 6 := by rw [hml]; exact hok.1.1
  have hcl : 1 ≤ p.cl ∧ p.cl ≤ 8000 := ⟨hok.2.1, hok.2.2.1⟩
  have hall : allI p = (baseN m.len m.ml : Int) := allI_N hml hlen
  have hble : ∀ j, j ≤ m.ml → baseN m.len j ≤ 384 := fun j hj => by
    have h1 := baseN_le m.len j (fun i hi => (hpos i (by omega)).2)
    omega
  have hall384 : allI p ≤ 384 := by rw [hall]; have := hble m.ml (Nat.le_refl _); omega
  have hbase : ∀ j, j < p.rl → 0 ≤ baseI p.log j ∧ baseI p.log (j + 1) = baseI p.log j + wordsI (p.log j) ∧ 0 ≤ wordsI (p.log j) ∧ baseI p.log (j + 1) ≤ 384 := fun j hj => by
    have h1 := base_eq p m hlen j (by omega)
    have h2 := base_eq p m hlen (j + 1) (by omega)
    have h3 := hlen j (by omega)
    have h4 := hble (j + 1) (by omega)
    exact ⟨by omega, rfl, by omega, by omega⟩
  have hinv : InvS p 0 (4 * 0) ⟨⟨0, fun _ => 0, flatM m, fun _ => []⟩, false, 0, ⟨0, fun _ => 0, flatM m, fun _ => []⟩, L, []⟩ := by
    refine ⟨⟨Nat.zero_le _, fun _ _ => B64_zero, fun j hj => ?_, fun j => Nat.le_refl _, fun j hj v hv => by simp at hv⟩, fun a => by simp at a, Nat.le_refl _, fun c hc => ?_⟩
    · rw [hall] at hj
      obtain ⟨c, i, h1, h2, rfl⟩ := base_find m.len m.ml j (by omega)
      dsimp only
      rw [flatM_at m c i h1 h2]
      exact hwd c h1 i h2
    · obtain ⟨j, hj⟩ := List.getElem?_of_mem hc
      exact hsok.2 j c hj
  obtain ⟨z, z1, z2, z3, z4⟩ := zrow
  obtain ⟨Z, Z1, Z2, Z3⟩ := zrow96
  have Hz : Hid (MC z (.slice none 0 0) (.slice none 0 0) (ms0 0) ∧ (Try.prog.info? 77).map (·.size) = some 411 ∧ z.size = 411) := ⟨z3, z4, z3.size rfl⟩
  have HZ9 : Hid (Z.size = 1578 ∧ (Try.prog.info? 96).map (·.size) = some 1578) := ⟨Z2, Z3⟩
  obtain ⟨ra, rb, ro, rc, ca, cb, co, cc⟩ := l
  obtain rfl : ca = some ⟨cb, co, none⟩ := hp.hc (by omega)
  dsimp only
  have HP0 := hid_of (And.intro hp (And.intro hok.2.2.2 hn64))
  have HM0 := hid_of (And.intro hml (And.intro hlen (And.intro hpos (And.intro hm6 (And.intro hcl (And.intro hall (And.intro hble (And.intro hall384 (And.intro hbase hinv)))))))))
  have HS0 := hid_of (And.intro hL (And.intro hcap (And.intro hs (And.intro hsok hfuel))))
  have HN : Hid (∀ w1, More w w1 → Calls Try.prog 45 #[.agg #[.slice ra p.rl rc, .slice (some ⟨cb, co, none⟩) p.cl cc], .slice ml.ma m.ml ml.mc, .int .i64 fuel] w1 fun e w' => ∃ (c : Array Value) (W S : Nat → Int), e = .returned (.tuple #[.agg c, .int .i64 0]) ∧ MC c (.slice ra p.rl rc) (.slice (some ⟨cb, co, none⟩) p.cl cc) { ms0 fuel with wd := W, st := S } ∧
      (∀ j, j ≤ m.ml → S j = (baseN m.len j : Int)) ∧ (∀ j, j < m.ml → ∀ i, i < m.len j → W (baseN m.len j + i) = m.wd j i) ∧ More w1 w') :=
    fun w1 m1 => seq_new p ⟨ra, rb, ro, rc, some ⟨cb, co, none⟩, cb, co, cc⟩ m ml fuel w1 (hp.more m1) (hm.more m1) hok hfit hpos (by omega) (by omega)
  obtain ⟨R, HR⟩ : ∃ R, Hid (playS p (flatM m) L fuel = R) := ⟨_, rfl⟩
  rw [HR.out]
  suffices H0 : ∀ P : Ending → World → Prop, (∀ e w', (∃ (v : Value) (mm : Mem), e = .returned (.tuple #[v, .int .i64 0]) ∧ ShownAt w' v ⟨R.fin, R.val, R.steps, R.seen, mm⟩ ∧ mm.ml = m.ml ∧ (∀ j, mm.len j = m.len j) ∧ (∀ j, j < m.ml → ∀ i, i < m.len j → mm.wd j i = R.wd (baseN m.len j + i)) ∧ More w w') → P e w') → Calls Try.prog 28 #[.agg #[.slice ra p.rl rc, .slice (some ⟨cb, co, none⟩) p.cl cc], .slice ml.ma m.ml ml.mc, .slice sa sn sc, .int .i64 fuel] w P from H0 _ (fun _ _ h => h)
  intro P hP
  have HP := hid_of hP
  obtain ⟨va, hva⟩ : ∃ va, ml.ma = va := ⟨_, rfl⟩
  obtain ⟨vc, hvc⟩ : ∃ vc, ml.mc = vc := ⟨_, rfl⟩
  rw [hva, hvc] at HN ⊢
  clear hp hm hok hn64 hfit hwd hfuel hml hlen hpos hm6 hcl hinv z3 z4 hP hva hvc hall hble hall384 hbase hL hcap hs hsok Z2 Z3
  go_enter Try.func28, Try.ntmps28
  go_wp2_with (fail)
  refine (HN.out _ (((More.refl _).alloc _ _).alloc _ _)).mono ?_
  rintro e w1 ⟨c, W, S, rfl, mcc, hS, hW, m1⟩
  obtain ⟨w3, hw3⟩ : ∃ w3, w3 = w1.alloc (.cells c 77) := ⟨_, rfl⟩
  have Hw3 : Hid (w3 = w1.alloc (.cells c 77)) := hw3
  have Hc := hid_of (And.intro mcc (And.intro hS (And.intro hW (And.intro (mcc.size rfl) (mcc.one rfl rfl rfl rfl rfl)))))
  have s1 : w.heap.size + 2 ≤ w1.heap.size := by have := m1.size; have := size_alloc2 w (.cells #[.slice ra p.rl rc, .slice (some ⟨cb, co, none⟩) p.cl cc] 29) (.cells #[.int .i64 0, .int .i64 0, .int .i64 0, .slice none 0 0, .slice none 0 0] 37); omega
  have Hm3 : Hid (More w w3) := by rw [show Hid (More w w3) = More w w3 from rfl, hw3]; exact ((((More.refl _).alloc _ _).alloc _ _).trans m1).alloc _ _
  have zz : ∀ j v, Wr ((w.alloc (.cells #[.slice ra p.rl rc, .slice (some ⟨cb, co, none⟩) p.cl cc] 29)).alloc (.cells #[.int .i64 0, .int .i64 0, .int .i64 0, .slice none 0 0, .slice none 0 0] 37)) (w.heap.size + 1) j v → Wr w3 (w.heap.size + 1) j v := fun j v hv => by rw [hw3]; exact (hv.kept (m1.grow none) (by simp)).kept (World.grownBy_alloc w1 _ none) (by simp)
  have HZ : Hid (Wr w3 (w.heap.size + 1) 0 (.int .i64 0) ∧ Wr w3 (w.heap.size + 1) 1 (.int .i64 0) ∧ Wr w3 (w.heap.size + 1) 2 (.int .i64 0) ∧ Wr w3 (w.heap.size + 1) 3 (.slice none 0 0) ∧ Wr w3 (w.heap.size + 1) 4 (.slice none 0 0)) :=
    ⟨zz 0 _ ⟨by go_simp, by go_simp⟩, zz 1 _ ⟨by go_simp, by go_simp⟩, zz 2 _ ⟨by go_simp, by go_simp⟩, zz 3 _ ⟨by go_simp, by go_simp⟩, zz 4 _ ⟨by go_simp, by go_simp⟩⟩
  have hrow3 : w3.heap[w1.heap.size]? = some (.cells c 77 (0, 0)) := by rw [hw3]; exact heap_alloc_last _ _
  have hsz3 : w3.heap.size = w1.heap.size + 1 := by rw [hw3]; simp
  have hA := spec_allowed sa sb so sn sc L HS0.out.1 w3 (HS0.out.2.2.1.more Hm3.out)
  have HA := hid_of hA
  obtain ⟨C, hC1, hC2, hC3⟩ := built96 c _ _ _ Hc.out.1 rfl sa sn sc (w1.heap.size + 1)
  have HC := hid_of (And.intro hC1 (And.intro hC2 (And.intro hC3 (hC3.oneS hC2 rfl rfl rfl rfl rfl))))
  have i77 : Hid ((Try.prog.info? 77).map (·.size) = some c.size) := by rw [show Hid ((Try.prog.info? 77).map (·.size) = some c.size) = ((Try.prog.info? 77).map (·.size) = some c.size) from rfl, Hc.out.2.2.2.1]; exact Hz.out.2.1
  have hmm := @run_makeMap Try.prog
  clear m1 mcc zz hw3 hS hW HN hA hC1 hC2 hC3
  go_wp2_with (refine wpList_store_row rfl 77 (.tmp 10) (.tmp 18) rfl w1.heap.size c rfl rfl 77 z (heap_alloc_last _ _) (by rw [Hc.out.2.2.2.1]; exact Hz.out.2.1) (by rw [Hc.out.2.2.2.1, Hz.out.2.2]) Hc.out.2.2.2.2 ?_; rw [World.setRow_alloc_new, ← Hw3.out])
  refine HA.out.mono ?_
  rintro e w4 ⟨r, rfl, hr, rfl⟩
  obtain rfl : r = true := hr.2 HS0.out.2.2.2.1
  obtain ⟨w5, hw5⟩ : ∃ w5, w5 = (w4.alloc (.map #[] 0)).alloc (.cells C 96) := ⟨_, rfl⟩
  have hset : ((w4.alloc (.map #[] 0)).alloc (.cells Z 96)).setRow (w1.heap.size + 1 + 1) C = w5 := by
    rw [hw5, show w1.heap.size + 1 + 1 = (w4.alloc (.map #[] 0)).heap.size by simp [hsz3]]
    exact World.setRow_alloc_new _ _ _ _
  have hrowZ : ((w4.alloc (.map #[] 0)).alloc (.cells Z 96)).heap[w1.heap.size + 1 + 1]? = some (.cells Z 96 (0, 0)) := by rw [← hsz3]; exact heap_alloc2_last _ _ _
  have Hset := hid_of (And.intro hset hrowZ)
  have b34 : Below (w1.heap.size + 1) w4 w5 := by rw [hw5]; exact below_alloc (below_alloc (Below.refl _ _) (by omega) _) (by simp [hsz3]) _
  have HW5 := hid_of b34
  have hmap5 : MapAt w5 (w1.heap.size + 1) (fun _ _ => 0) := by
    rw [hw5]
    have h1 := MapAt.made w4
    rw [hsz3] at h1
    exact h1.block ((World.grownBy_alloc _ _ none).block _ h1.lt (by simp))
  have hrun5 : RunS w5 (w1.heap.size + 1 + 1) (.slice ra p.rl rc) (.slice (some ⟨cb, co, none⟩) p.cl cc) { ms0 fuel with wd := W, st := S } (zTl (.slice sa sn sc) (w1.heap.size + 1)) [] := by
    refine ⟨⟨.slice none 0 0, ⟨C, ?_, HC.out.2.2.1⟩, World.ownsRow_nil _ _ _ _, fun q e => by cases e⟩⟩
    rw [hw5, ← hsz3]
    exact heap_alloc2_last _ _ _
  have hsc5 : ScAt w5 (w1.heap.size + 1) (.slice sa sn sc) L := by
    refine ⟨sa, sc, by rw [HS0.out.1], by rw [HS0.out.1]; exact HS0.out.2.1, fun hne => ?_⟩
    have hpos : 0 < L.length := List.length_pos_iff.2 hne
    have hc0 := HS0.out.2.2.1.cells 0 (L[0]) (List.getElem?_eq_getElem hpos)
    have hlt := cell_block hc0
    dsimp only at hlt
    refine ⟨sb, so, HS0.out.2.2.1.ha hpos, by omega, fun j c hj => ?_⟩
    rw [Below.cell b34 (by dsimp only; omega)]
    exact Hm3.out.cell (HS0.out.2.2.1.cells j c hj)
  have HA5 : Hid (∃ (x : Ms) (q : Tl) (se : List Se) (f : Int → Int → Int), RunS w5 (w1.heap.size + 1 + 1) (.slice ra p.rl rc) (.slice (some ⟨cb, co, none⟩) p.cl cc) x q se ∧ x.mo = [] ∧ q.mb = w1.heap.size + 1 ∧ MapAt w5 (w1.heap.size + 1) f ∧ ((∃ s k, WayS p fuel fuel R x q f se s k ∧ ScAt w5 (w1.heap.size + 1) q.sc s.script) ∨ (x.ended = true ∧ q.ahead = false ∧ FinS p R x q se))) := by
    refine ⟨_, _, _, _, hrun5, rfl, rfl, hmap5, .inl ⟨⟨⟨0, fun _ => 0, flatM m, fun _ => []⟩, false, 0, ⟨0, fun _ => 0, flatM m, fun _ => []⟩, L, []⟩, 0, ⟨by omega, ⟨rfl, fun j hj => ?_, rfl, rfl, rfl, rfl, rfl, rfl, fun j hj => ?_, fun _ _ => rfl, fun j hj t v hv => by simp at hv, rfl, fun a => by simp at a, fun a => by simp at a, fun a => by simp at a, fun a => by simp at a, fun a => by simp at a, fun a => by simp at a, fun a => by simp at a⟩, rfl, HM0.out.2.2.2.2.2.2.2.2.2, HR.out⟩, hsc5⟩⟩
    · rw [HM0.out.2.2.2.2.2.1] at hj
      exact flat_same Hc.out.2.2.1 j (by omega)
    · show S j = _
      rw [Hc.out.2.1 j (by rw [HM0.out.1]; exact hj)]
      exact base_eq p m HM0.out.2.1 j (by rw [HM0.out.1]; exact hj)
  clear hr HA hw5 hset hrowZ b34 hmap5 hrun5 hsc5
  go_wp2_with (first
    | (refine wpList_load_row rfl 77 (.tmp 10) rfl w1.heap.size rfl 77 c (0, 0) _ hrow3 Try.underlying77 rfl i77.out ?_)
    | (refine wpList_build_eq rfl 96 #[(0, .tmp 28), (1, .tmp 29), (2, .tmp 30)] rfl C (by simp [Act.eval]; exact HC.out.1) ?_)
    | (refine wpList_store_row rfl 96 (.tmp 12) (.tmp 31) rfl (w1.heap.size + 1 + 1) C rfl rfl 96 Z Hset.out.2 (by rw [HC.out.2.1]; exact HZ9.out.2) (by rw [HC.out.2.1, HZ9.out.1]) HC.out.2.2.2 ?_; rw [Hset.out.1]))
  go_simp
  obtain ⟨M, hM⟩ : ∃ M, M = w1.heap.size + 1 + 1 := ⟨_, rfl⟩
  obtain ⟨mb, hmb⟩ : ∃ mb, mb = w1.heap.size + 1 := ⟨_, rfl⟩
  rw [← hM, ← hmb] at HA5
  rw [← hmb] at HW5
  have HMM : Hid (M = w1.heap.size + 1 + 1 ∧ mb = w1.heap.size + 1 ∧ w.heap.size + 2 ≤ w1.heap.size) := ⟨hM, hmb, s1⟩
  rw [← hM, ← hmb]
  clear hM hmb hrow3 hsz3 s1 hmm Hset HC HZ9 Hz Hw3 i77 Z1 z1 z2
  go_loopg [] fuel (fun g wr => ∃ (x : Ms) (q : Tl) (se : List Se) (f : Int → Int → Int), RunS wr M (.slice ra p.rl rc) (.slice (some ⟨cb, co, none⟩) p.cl cc) x q se ∧ x.mo = [] ∧ q.mb = mb ∧ MapAt wr mb f ∧ Below mb w4 wr ∧ ((∃ s k, WayS p fuel g R x q f se s k ∧ ScAt wr mb q.sc s.script) ∨ (x.ended = true ∧ q.ahead = false ∧ FinS p R x q se)))
  case atStart =>
    obtain ⟨x, q, se, f, h1, h2, h3, h4, h5⟩ := HA5.out
    exact ⟨x, q, se, f, h1, h2, h3, h4, HW5.out, h5⟩
  case round =>
    obtain ⟨x, q, se, f, hrun, hmo, hqm, hmap, hbel, hway⟩ := hrel
    have hlt : mb < M := by have := HMM.out; omega
    have Hst := hid_of (And.intro hrun (And.intro hmo (And.intro hqm (And.intro hmap (And.intro hbel hlt)))))
    have HWy := hid_of hway
    have HG := hid_of (spec_goesOn_all (p := p) (fuel := fuel) (g := gk) (R := R) (f := f) (.slice ra p.rl rc) (some ⟨cb, co, none⟩) cc HS0.out.2.2.2.2 hrun (fun s => ScAt wr mb q.sc s.script) hway)
    clear hrun hmo hqm hmap hbel hway HA5 hlt
    go_wp2_with (fail)
    refine HG.out.mono ?_
    rintro e w6 ⟨b6, b, x', q', se', rfl, r6, hq1, hq2, hx1, hcase⟩
    have H6 := hid_of (And.intro r6 (And.intro b6 (And.intro hq1 (And.intro hq2 hx1))))
    clear b6 r6 HG hq1 hq2 hx1
    rcases hcase with ⟨rfl, hfin⟩ | ⟨rfl, g', s, k, rfl, hkg, hsim, hse, hinv, hat, hsc, hw, hphi⟩
    · have HF := hid_of hfin
      clear hfin
      have hst2 : ∀ j, j ≤ p.rl → x'.st j = (baseN m.len j : Int) := fun j hj => by
        rw [HF.out.st j hj]
        exact (base_eq p m HM0.out.2.1 j (by rw [HM0.out.1]; exact hj)).symm
      have HT := hid_of (spec_told w6 M ra p.rl rc _ x' q' se' (baseN m.len) H6.out.1 (by rw [← HM0.out.1]; exact HM0.out.2.2.2.1) hst2 (fun j hj => by have := (HM0.out.2.2.1 j (by rw [HM0.out.1]; exact hj)).1; simp only [baseN]; omega) (fun j hj => by have := (HM0.out.2.2.1 j (by rw [HM0.out.1]; exact hj)).2; simp only [baseN]; omega) (fun j hj => HM0.out.2.2.2.2.2.2.1 j (by rw [HM0.out.1]; exact hj)) HF.out.short)
      clear hst2
      go_wp2_with (fail)
      refine HT.out.mono ?_
      rintro e w7 ⟨v, rfl, hsh, b7⟩
      have hb7 : Below mb w4 w7 := Below.trans Hst.out.2.2.2.2.1 (Below.mono (Below.trans H6.out.2.1 b7) (Nat.le_of_lt Hst.out.2.2.2.2.2))
      have HSH := hid_of hsh
      have hlt1 : w.heap.size + 1 < M := by have := HMM.out; omega
      have hlt2 : w.heap.size + 1 < mb := by have := HMM.out; omega
      obtain ⟨sv, lm, hv, hs1, hs2⟩ := hsh (w.heap.size + 1) w7 hlt1 (grown_refl _ _)
      clear hsh
      dsimp only at hv
      subst hv
      have HB7 := hid_of (And.intro hb7 (And.intro hlt1 hlt2))
      obtain ⟨sa', sb', so', sc', rfl, _, _, _⟩ := hs1
      have kept : ∀ j v, Wr w4 (w.heap.size + 1) j v → Wr w7 (w.heap.size + 1) j v := fun j v hv => ⟨by rw [Below.cell hb7 hlt2]; exact hv.1, by rw [World.frozen?_of_block (Below.block hb7 _ hlt2)]; exact hv.2⟩
      obtain ⟨y0, g0⟩ := kept _ _ HZ.out.1
      obtain ⟨y1, g1⟩ := kept _ _ HZ.out.2.1
      obtain ⟨y2, g2⟩ := kept _ _ HZ.out.2.2.1
      obtain ⟨y3, g3⟩ := kept _ _ HZ.out.2.2.2.1
      obtain ⟨y4, g4⟩ := kept _ _ HZ.out.2.2.2.2
      clear hs2 hb7 b7 kept hlt1 hlt2 HT
      obtain ⟨la, hla⟩ : ∃ la, lm.ma = la := ⟨_, rfl⟩
      obtain ⟨lc, hlc⟩ : ∃ lc, lm.mc = lc := ⟨_, rfl⟩
      rw [hla, hlc] at HSH ⊢
      clear hla hlc
      go_wp2
      refine bodyPost_ret (v := .tuple #[.agg #[.int .i64 x'.fin, .int .i64 x'.val, .int .i64 x'.steps, .slice sa' se'.length sc', .slice la p.rl lc], .int .i64 0]) (by simp [results, Try.results28, go_sem, *]) rfl ?_
      have hg : w7.grownBy (((((w7.setCell ⟨w.heap.size + 1, 0, none⟩ (.int .i64 x'.fin)).setCell ⟨w.heap.size + 1, 1, none⟩ (.int .i64 x'.val)).setCell ⟨w.heap.size + 1, 2, none⟩ (.int .i64 x'.steps)).setCell ⟨w.heap.size + 1, 3, none⟩ (.slice sa' se'.length sc')).setCell ⟨w.heap.size + 1, 4, none⟩ (.slice la p.rl lc)) (some (w.heap.size + 1)) := gr_set (gr_set (gr_set (gr_set (gr_set (grown_refl _ _) _ _) _ _) _ _) _ _) _ _
      have hsh := HSH.out (w.heap.size + 1) _ HB7.out.2.1 hg
      have esh : (⟨x'.fin, x'.val, x'.steps, se', ⟨p.rl, fun j => baseN m.len (j + 1) - baseN m.len j, fun j i => (if q'.ahead = true then q'.bw else x'.wd) (baseN m.len j + i)⟩⟩ : Sh) = ⟨R.fin, R.val, R.steps, R.seen, ⟨p.rl, fun j => baseN m.len (j + 1) - baseN m.len j, fun j i => (if q'.ahead = true then q'.bw else x'.wd) (baseN m.len j + i)⟩⟩ := by rw [HF.out.fin, HF.out.val, HF.out.steps, HF.out.seen]
      rw [esh] at hsh
      have hmore : More w w7 := Below.trans Hm3.out (Below.mono HB7.out.1 (by have := HB7.out.2.2; omega))
      refine HP.out _ _ ⟨.agg #[.int .i64 x'.fin, .int .i64 x'.val, .int .i64 x'.steps, .slice sa' se'.length sc', .slice la p.rl lc], _, rfl, hsh, HM0.out.1.symm, fun j => by simp only [baseN]; omega, fun j hj i hi => ?_, hmore.grownBy hg (fun b hb => by have := Option.some.inj hb; omega)⟩
      refine HF.out.wd _ ?_
      rw [HM0.out.2.2.2.2.2.1]
      have := baseN_mono m.len (j + 1) m.ml hj
      simp only [baseN] at this
      omega
    · have hb46 : Below mb w4 w6 := Below.trans Hst.out.2.2.2.2.1 (Below.mono H6.out.2.1 (Nat.le_of_lt Hst.out.2.2.2.2.2))
      have hscx : ScAt w6 mb q'.sc (s.noneLeft p.cl).script := by
        rw [H6.out.2.2.2.1, hsc]
        exact hphi.below (Below.mono H6.out.2.1 (Nat.le_of_lt Hst.out.2.2.2.2.2))
      have hB : Bgn p fuel w6 M mb x' q' f (s.noneLeft p.cl) k := ⟨hsim, by rw [H6.out.2.2.1]; exact Hst.out.2.2.1, Hst.out.2.2.2.2.2, Hst.out.2.2.2.1.below H6.out.2.1 Hst.out.2.2.2.2.2, hscx, hinv, by omega, HS0.out.2.2.2.2, HM0.out.2.2.2.2.2.2.2.1, HM0.out.2.2.2.2.2.2.2.2.1, by rw [← HM0.out.1]; exact HM0.out.2.2.2.1⟩
      have hcode := HP0.out.1.code (s.noneLeft p.cl).pl.at_ hat
      have hcbw : cb < w.heap.size := cell_block hcode.1
      have hcbm : cb < mb := by have := HMM.out; omega
      have cellsB : ∀ (o : Nat) (v : Value), w.cell? ⟨cb, o, none⟩ = some v → w6.cell? ⟨cb, o, none⟩ = some v := fun o v hc => by
        rw [Below.cell hb46 hcbm]; exact Hm3.out.cell hc
      rw [hse] at H6
      have HSp := hid_of (spec_step_all ra rc cb co cc hB hat HM0.out.2.2.2.2.1.2 (by have := Hst.out.2.2.2.2.2; omega) (HP0.out.2.1 _ hat) (HP0.out.2.2 _ hat) ⟨cellsB _ _ hcode.1, cellsB _ _ hcode.2.1, cellsB _ _ hcode.2.2.1, cellsB _ _ hcode.2.2.2.1, cellsB _ _ hcode.2.2.2.2⟩ H6.out.1)
      have HWW := hid_of (And.intro hw (And.intro hat hb46))
      clear hw hat hsim hse hinv hsc hphi hB hcode hcbw hcbm cellsB hscx hb46 hkg
      go_wp2_with (fail)
      refine HSp.out.mono ?_
      rintro e w8 ⟨rfl, b8, x2, q2, se2, ht, r8⟩
      have hnx := wayS_next HS0.out.2.2.2.2 HWW.out.1 HWW.out.2.1 (HP0.out.2.1 _ HWW.out.2.1) (HP0.out.2.2 _ HWW.out.2.1) ht
      have H8 := hid_of (And.intro r8 (And.intro (Below.trans HWW.out.2.2 b8) hnx))
      clear r8 b8 ht hnx HSp
      go_wp2
      go_roundg g'
      case measure => omega
      case rel =>
        obtain ⟨f', h1, h2, h3⟩ := H8.out.2.2
        refine ⟨{ x2 with mo := x'.mo }, q2, se2, f', H8.out.1, ?_, h1, h2, H8.out.2.1, ?_⟩
        · show x'.mo = []
          rw [H6.out.2.2.2.2]; exact Hst.out.2.1
        · rcases h3 with ⟨s', k', h4, h5⟩ | ⟨h4, h5, h6⟩
          · exact .inl ⟨s', k', h4.mos _, h5⟩
          · exact .inr ⟨h4, h5, h6.mos _⟩
end Go.Proofs.Ytbfhchhggkpbdaa

/-
  What a program and a memory that were handed in lie like: read off the data that the statement speaks of.
-/
namespace Go.Proofs.Ytbfhchhggkpbdaa
open Go.ChangeShapes Go.WideShapes Go.ChangeAt Go.RowKit Go.Deep Go.Joins
set_option maxRecDepth 8000

theorem cells47 : Try.prog.cellsOf 66 = 2 := by kernel_rfl
theorem cells34 : Try.prog.cellsOf 34 = 5 := by kernel_rfl
theorem cells29 : Try.prog.cellsOf 29 = 2 := by kernel_rfl
theorem cells48 : Try.prog.cellsOf 67 = 1 := by kernel_rfl
theorem cells2 : Try.prog.cellsOf 2 = 1 := by kernel_rfl
theorem cells3 : Try.prog.cellsOf 3 = 1 := by kernel_rfl
theorem cells4 : Try.prog.cellsOf 4 = 1 := by kernel_rfl

def I64 (x : Int) : Prop := -9223372036854775808 ≤ x ∧ x ≤ 9223372036854775807
def Ins.fits (i : Ins) : Prop := I64 i.op ∧ I64 i.a ∧ I64 i.b ∧ I64 i.c ∧ I64 i.n

/-- What holds of every program that is handed in: the lengths and numbers are such as Go has. -/
structure Prg.Fit (p : Prg) : Prop where
  rl : p.rl ≤ maxLen
  cl : p.cl ≤ maxLen
  log : ∀ i, i < p.rl → I64 (p.log i)
  ins : ∀ i, i < p.cl → (p.ins i).fits

section
variable {H : Type} {enc : TypeId × Value → H} {W : World} {base : Nat} {held : Bool}

theorem plain_addr {a : Addr} {v : Value} (h : W.cell? a = some v) : a = ⟨a.block, a.off, none⟩ := by
  have := World.cell?_spot h
  cases a
  simp_all

theorem open_regs {fuel : Nat} {cs : List Value} {x : DataW H × List MemPlace} (h : DataW.trod enc Try.prog W base (fun _ => true) held fuel 26 cs = some x) :
    ∃ (ra : Option Addr) (rb ro rl rc : Nat) (log : Nat → Int) (sec : Nat → Bool), cs = [.slice ra rl rc] ∧ (0 < rl → ra = some ⟨rb, ro, none⟩) ∧ RegsAt W rb ro rl log sec ∧ rl ≤ rc ∧ rc ≤ maxLen ∧ ∀ i, i < rl → I64 (log i) := by
  rcases open_slice Try.underlying26 h with ⟨rfl, _⟩ | ⟨a, len, cap, m, n, D, Pl, rfl, hb, hl, hm, hmm, rfl, hx⟩
  · exact ⟨none, 0, 0, 0, 0, fun _ => 0, fun _ => false, rfl, fun h => by omega, fun i hi => by omega, Nat.le_refl _, Nat.zero_le _, fun i hi => by omega⟩
  have hlm : len ≤ m := by rw [hmm]; simpa using hl
  have each : ∀ i, i < len → ∃ q : Int × Bool, W.cell? (a.add (i * 2)) = some (.int .i64 q.1) ∧ W.cell? (a.add (i * 2 + 1)) = some (.bool q.2) ∧ I64 q.1 := by
    intro i hi
    obtain ⟨cs', h1, h2⟩ := hx i (by omega)
    rw [cells47] at h1
    obtain ⟨_, hlen, hcell⟩ := World.cells?_some h1
    obtain ⟨xs, k, hk, hxy, _, hxl, hf⟩ := DataW.trod_struct Try.underlying66 h2
    match cs', hlen with
    | [v0, v1], _ =>
      have g0 := hf 0 _ rfl
      have g1 := hf 1 _ rfl
      have e0 := hcell 0 (by omega)
      have e1 := hcell 1 (by omega)
      rw [add_add] at e0 e1
      simp [cells3, cells4] at g0 g1
      match xs, hxl with
      | [y0, y1], _ =>
        simp at g0 g1
        obtain ⟨z, hz, _, wz⟩ := DataW.trod_int Try.underlying3 g0
        obtain ⟨s, hs, _⟩ := DataW.trod_bool Try.underlying4 g1
        simp at hz hs e0 e1
        subst hz hs
        exact ⟨(z, s), e0, e1, bounds_i64 wz⟩
  obtain ⟨q, hq⟩ := choose_lt each
  refine ⟨some a, a.block, a.off, len, cap, fun i => (q i).1, fun i => (q i).2, rfl, fun h0 => ?_, fun i hi => ?_, hl, hm, fun i hi => (hq i hi).2.2⟩
  · have h1 := (hq 0 h0).1
    simp [Addr.add] at h1
    rw [← plain_addr h1]
  · have h1 := (hq 0 (by omega)).1
    simp [Addr.add] at h1
    have ha := plain_addr h1
    obtain ⟨b, o, s⟩ := a
    simp at ha
    subst ha
    have := hq i hi
    rw [add_plain, add_plain] at this
    exact ⟨by simpa using this.1, by have := this.2.1; simpa [Nat.add_assoc] using this⟩

theorem open_code {fuel : Nat} {cs : List Value} {x : DataW H × List MemPlace} (h : DataW.trod enc Try.prog W base (fun _ => true) held fuel 27 cs = some x) :
    ∃ (ca : Option Addr) (cb co cl cc : Nat) (ins : Nat → Ins), cs = [.slice ca cl cc] ∧ (0 < cl → ca = some ⟨cb, co, none⟩) ∧ CodeAt W cb co cl ins ∧ cl ≤ cc ∧ cc ≤ maxLen ∧ ∀ i, i < cl → (ins i).fits := by
  rcases open_slice Try.underlying27 h with ⟨rfl, _⟩ | ⟨a, len, cap, m, n, D, Pl, rfl, hb, hl, hm, hmm, rfl, hx⟩
  · exact ⟨none, 0, 0, 0, 0, fun _ => ⟨0, 0, 0, 0, 0⟩, rfl, fun h => by omega, fun i hi => by omega, Nat.le_refl _, Nat.zero_le _, fun i hi => by omega⟩
  have hlm : len ≤ m := by rw [hmm]; simpa using hl
  have each : ∀ i, i < len → ∃ q : Int × Int × Int × Int × Int, W.cell? (a.add (i * 5)) = some (.int .i64 q.1) ∧ W.cell? (a.add (i * 5 + 1)) = some (.int .i64 q.2.1) ∧ W.cell? (a.add (i * 5 + 2)) = some (.int .i64 q.2.2.1) ∧
      W.cell? (a.add (i * 5 + 3)) = some (.int .i64 q.2.2.2.1) ∧ W.cell? (a.add (i * 5 + 4)) = some (.int .i64 q.2.2.2.2) ∧ I64 q.1 ∧ I64 q.2.1 ∧ I64 q.2.2.1 ∧ I64 q.2.2.2.1 ∧ I64 q.2.2.2.2 := by
    intro i hi
    obtain ⟨cs', h1, h2⟩ := hx i (by omega)
    rw [cells34] at h1
    obtain ⟨_, hlen, hcell⟩ := World.cells?_some h1
    obtain ⟨xs, k, hk, hxy, _, hxl, hf⟩ := DataW.trod_struct Try.underlying34 h2
    match cs', hlen with
    | [v0, v1, v2, v3, v4], _ =>
      have g0 := hf 0 _ rfl
      have g1 := hf 1 _ rfl
      have g2 := hf 2 _ rfl
      have g3 := hf 3 _ rfl
      have g4 := hf 4 _ rfl
      have e0 := hcell 0 (by omega)
      have e1 := hcell 1 (by omega)
      have e2 := hcell 2 (by omega)
      have e3 := hcell 3 (by omega)
      have e4 := hcell 4 (by omega)
      rw [add_add] at e0 e1 e2 e3 e4
      simp [cells3, cells2] at g0 g1 g2 g3 g4
      match xs, hxl with
      | [y0, y1, y2, y3, y4], _ =>
        simp at g0 g1 g2 g3 g4
        obtain ⟨z0, hz0, _, wz0⟩ := DataW.trod_int Try.underlying3 g0
        obtain ⟨z1, hz1, _, wz1⟩ := DataW.trod_int Try.underlying3 g1
        obtain ⟨z2, hz2, _, wz2⟩ := DataW.trod_int Try.underlying3 g2
        obtain ⟨z3, hz3, _, wz3⟩ := DataW.trod_int Try.underlying3 g3
        obtain ⟨z4, hz4, _, wz4⟩ := DataW.trod_int Try.underlying2 g4
        simp at hz0 hz1 hz2 hz3 hz4 e0 e1 e2 e3 e4
        subst hz0 hz1 hz2 hz3 hz4
        exact ⟨(z0, z1, z2, z3, z4), e0, e1, e2, e3, e4, bounds_i64 wz0, bounds_i64 wz1, bounds_i64 wz2, bounds_i64 wz3, bounds_i64 wz4⟩
  obtain ⟨q, hq⟩ := choose_lt each
  refine ⟨some a, a.block, a.off, len, cap, fun i => ⟨(q i).1, (q i).2.1, (q i).2.2.1, (q i).2.2.2.1, (q i).2.2.2.2⟩, rfl, fun h0 => ?_, fun i hi => ?_, hl, hm, fun i hi => (hq i hi).2.2.2.2.2⟩
  · have h1 := (hq 0 h0).1
    simp [Addr.add] at h1
    rw [← plain_addr h1]
  · have h1 := (hq 0 (by omega)).1
    simp [Addr.add] at h1
    have ha := plain_addr h1
    obtain ⟨b, o, s⟩ := a
    simp at ha
    subst ha
    have := hq i hi
    rw [add_plain, add_plain, add_plain, add_plain, add_plain] at this
    obtain ⟨t0, t1, t2, t3, t4, _⟩ := this
    exact ⟨by simpa using t0, by simpa [Nat.add_assoc] using t1, by simpa [Nat.add_assoc] using t2, by simpa [Nat.add_assoc] using t3, by simpa [Nat.add_assoc] using t4⟩

theorem open_prog {v : Value} {d : DataW H} {ps : List MemPlace} {r : Reach} {b0 : Nat} (hv : Value.okWide Try.prog W r b0 29 v) (h : DataW.Trod enc Try.prog W base (fun _ => true) held 29 v d ps) :
    ∃ (p : Prg) (l : Loc), v = .agg #[.slice l.ra p.rl l.rc, .slice l.ca p.cl l.cc] ∧ PIn W p l ∧ p.Fit := by
  obtain ⟨v0, v1, y0, y1, n, rfl, rfl, rfl, h0, h1⟩ := open_agg2 Try.underlying29 (by kernel_rfl) cells29 hv h
  obtain ⟨ra, rb, ro, rl, rc, log, sec, e0, hra, hr, hrc, hrm, hlog⟩ := open_regs h0
  obtain ⟨ca, cb, co, cl, cc, ins, e1, hca, hc, hcc, hcm, hins⟩ := open_code h1
  simp at e0 e1
  subst e0 e1
  exact ⟨⟨rl, log, sec, cl, ins⟩, ⟨ra, rb, ro, rc, ca, cb, co, cc⟩, rfl, ⟨hra, hca, hr, hc⟩, ⟨Nat.le_trans hrc hrm, Nat.le_trans hcc hcm, hlog, hins⟩⟩

end
end Go.Proofs.Ytbfhchhggkpbdaa

/-
  Runs with more and with less fuel, on plain data: who has more goes on as the other one began, and who has ended stays so. And what a memory that was handed in lies like.
-/
namespace Go.Proofs.Ytbfhchhggkpbdaa
open Go.ChangeShapes Go.WideShapes Go.ChangeAt Go.RowKit Go.Deep Go.Joins
set_option linter.unusedVariables false
set_option maxRecDepth 8000

theorem step_end {p : Prg} {s : St} {e : Int × Int} (h : (stepI p s).2 = some e) : ¬ e.1 = 0 := by
  unfold stepI at h
  by_cases h7 : (p.ins s.at_).op = 7
  · rw [if_pos h7] at h; cases h
  rw [if_neg h7] at h
  by_cases h8 : (p.ins s.at_).op = 8
  · rw [if_pos h8] at h; cases h
  rw [if_neg h8] at h
  by_cases h9 : (p.ins s.at_).op = 9
  · rw [if_pos h9] at h
    have := (Option.some.inj h).symm
    subst this
    simp
  rw [if_neg h9] at h
  by_cases hp : 0 ≤ putI (p.ins s.at_)
  · rw [if_pos hp] at h
    by_cases hx : idxI s.r (p.ins s.at_) < 0 ∨ (s.m.len (p.ins s.at_).c.toNat : Int) ≤ idxI s.r (p.ins s.at_)
    · rw [if_pos hx] at h
      have := (Option.some.inj h).symm
      subst this
      decide
    rw [if_neg hx] at h
    by_cases h1 : putI (p.ins s.at_) = 1
    · rw [if_pos h1] at h; cases h
    · rw [if_neg h1] at h; cases h
  · rw [if_neg hp] at h; cases h

theorem step_seen (p : Prg) (s : St) : ∃ t, (stepI p s).1.seen = s.seen ++ t := by
  unfold stepI
  repeat' split
  all_goals first
    | exact ⟨_, rfl⟩
    | exact ⟨_, List.append_assoc _ _ _⟩

theorem run_begin (p : Prg) : ∀ (f k : Nat) (s : St), (k : Int) ≤ (runI p f k s).steps ∧ ∃ t, (runI p f k s).seen = s.seen ++ t
  | 0, k, s => ⟨Int.le_refl _, [], (List.append_nil _).symm⟩
  | f + 1, k, s => by
    obtain ⟨t, ht⟩ := step_seen p s
    rw [runI]
    by_cases h : p.cl ≤ s.at_
    · rw [if_pos h]; exact ⟨Int.le_refl _, [], (List.append_nil _).symm⟩
    rw [if_neg h]
    cases hq : (stepI p s).2 with
    | some e => exact ⟨by dsimp only; omega, t, ht⟩
    | none =>
      obtain ⟨h1, t', ht'⟩ := run_begin p f (k + 1) (stepI p s).1
      refine ⟨by dsimp only; omega, t ++ t', ?_⟩
      dsimp only
      rw [ht', ht, List.append_assoc]

/-- Who ended by its fuel has done all of it, and who has more goes on as it began. -/
theorem run_fuel (p : Prg) : ∀ (f g k : Nat) (s : St), f ≤ g → (runI p f k s).fin = 0 → (runI p f k s).steps = (k : Int) + f ∧ (k : Int) + f ≤ (runI p g k s).steps ∧ ∃ t, (runI p g k s).seen = (runI p f k s).seen ++ t
  | 0, g, k, s, _, _ => by
    obtain ⟨h1, t, ht⟩ := run_begin p g k s
    exact ⟨by simp [runI], by simpa using h1, t, ht⟩
  | f + 1, 0, k, s, h, _ => by omega
  | f + 1, g + 1, k, s, h, h0 => by
    rw [runI] at h0
    by_cases hc : p.cl ≤ s.at_
    · rw [if_pos hc] at h0; exact absurd h0 (by simp)
    rw [if_neg hc] at h0
    cases hq : (stepI p s).2 with
    | some e =>
      rw [hq] at h0
      exact absurd h0 (step_end hq)
    | none =>
      rw [hq] at h0
      have ih := run_fuel p f g (k + 1) (stepI p s).1 (by omega) h0
      have e1 : runI p (f + 1) k s = runI p f (k + 1) (stepI p s).1 := by rw [runI, if_neg hc, hq]
      have e2 : runI p (g + 1) k s = runI p g (k + 1) (stepI p s).1 := by rw [runI, if_neg hc, hq]
      rw [e1, e2]
      refine ⟨by rw [ih.1]; push_cast; omega, ?_, ih.2.2⟩
      have := ih.2.1
      push_cast at this ⊢
      omega

/-- Who has ended otherwise stays so. -/
theorem run_ended (p : Prg) : ∀ (f g k : Nat) (s : St), f ≤ g → ¬ (runI p f k s).fin = 0 → runI p g k s = runI p f k s
  | 0, g, k, s, _, h => absurd (by simp [runI]) h
  | f + 1, 0, k, s, h, _ => by omega
  | f + 1, g + 1, k, s, h, h0 => by
    by_cases hc : p.cl ≤ s.at_
    · rw [runI, if_pos hc, runI, if_pos hc]
    cases hq : (stepI p s).2 with
    | some e => rw [runI, if_neg hc, runI, if_neg hc, hq]
    | none =>
      have e1 : runI p (f + 1) k s = runI p f (k + 1) (stepI p s).1 := by rw [runI, if_neg hc, hq]
      have e2 : runI p (g + 1) k s = runI p g (k + 1) (stepI p s).1 := by rw [runI, if_neg hc, hq]
      rw [e1] at h0
      rw [e1, e2]
      exact run_ended p f g (k + 1) _ (by omega) h0

/-! ### A memory that was handed in -/
structure MRaw (w : World) (m : Mem) (l : MLoc) : Prop where
  hm : 0 < m.ml → l.ma = some ⟨l.mb, l.mo, none⟩
  lists : ListsAt w l.mb l.mo m.ml l.A m.len l.C
  hg : ∀ i, i < m.ml → 0 < m.len i → l.A i = some ⟨l.gb i, l.go i, none⟩
  words : ∀ i, i < m.ml → ∀ j, j < m.len i → w.cell? ⟨l.gb i, l.go i + j, none⟩ = some (.int .i64 (m.wd i j))
theorem MRaw.more {w w' : World} (m : More w w') {x : Mem} {l : MLoc} (h : MRaw w x l) : MRaw w' x l :=
  ⟨h.hm, h.lists.more m, h.hg, fun i hi j hj => m.cell (h.words i hi j hj)⟩
theorem MRaw.in_ {w : World} {m : Mem} {l : MLoc} (h : MRaw w m l) (h1 : m.ml ≤ 6) (h2 : ∀ i, i < m.ml → m.len i ≤ 64) : MIn w m l :=
  ⟨h.hm, h.lists, h.hg, h.words, by omega, fun i hi => by have := h2 i hi; omega⟩

theorem open_memw {H : Type} {enc : TypeId × Value → H} {W : World} {base : Nat} {held : Bool} {v : Value} {d : DataW H} {ps : List MemPlace} {r : Reach} {b0 : Nat}
    (hv : Value.okWide Try.prog W r b0 30 v) (h : DataW.Trod enc Try.prog W base (fun _ => true) held 30 v d ps) :
    ∃ (m : Mem) (l : MLoc), v = .slice l.ma m.ml l.mc ∧ MRaw W m l ∧ ∀ j, j < m.ml → ∀ i, i < m.len j → B64 (m.wd j i) := by
  obtain ⟨a0, len, cap, rfl⟩ := okWide_slice Try.underlying30 hv
  obtain ⟨fuel, hf⟩ := h
  rcases open_int_rows Try.underlying30 Try.underlying67 Try.underlying2 cells48 cells2 hf with ⟨hcs, _⟩ | ⟨a, len', cap', A, L, C, Z, hcs, _, hl, hm, _, hrow⟩
  · simp [Value.cells] at hcs
    obtain ⟨rfl, rfl, rfl⟩ := hcs
    exact ⟨⟨0, fun _ => 0, fun _ _ => 0⟩, ⟨none, 0, 0, 0, fun _ => none, fun _ => 0, fun _ => 0, fun _ => 0⟩, rfl, ⟨fun h => by simp at h, fun i hi => by simp at hi, fun i hi => by simp at hi, fun i hi => by simp at hi⟩, fun j hj => by simp at hj⟩
  · simp [Value.cells] at hcs
    obtain ⟨rfl, rfl, rfl⟩ := hcs
    have haddr : ∀ i, i < len → 0 < L i → ∃ a', A i = some a' ∧ a' = ⟨a'.block, a'.off, none⟩ := by
      intro i hi h0
      obtain ⟨_, h2, _, _, _, h6, h7⟩ := hrow i (by omega)
      cases hA : A i with
      | none => have := h6 hA; omega
      | some a' =>
        refine ⟨a', rfl, ?_⟩
        have := (h7 a' hA).2 0 (by omega)
        simp [Addr.add] at this
        exact plain_addr this
    refine ⟨⟨len, L, fun i j => (Z i).getD j 0⟩, ⟨some a, a.block, a.off, cap, A, C, fun i => ((A i).getD a).block, fun i => ((A i).getD a).off⟩, rfl, ⟨fun h0 => ?_, fun i hi => ?_, fun i hi h0 => ?_, fun i hi j hj => ?_⟩, fun j hj i hi => ?_⟩
    · dsimp only at h0 ⊢
      have h1 := (hrow 0 (by omega)).1
      simp [Addr.add] at h1
      rw [← plain_addr h1]
    · dsimp only at hi ⊢
      have h1 := (hrow 0 (by omega)).1
      simp [Addr.add] at h1
      have ha := plain_addr h1
      obtain ⟨b, o, s⟩ := a
      simp at ha
      subst ha
      have := (hrow i (by omega)).1
      rw [add_plain] at this
      exact this
    · dsimp only at hi h0 ⊢
      obtain ⟨a', e1, e2⟩ := haddr i hi h0
      rw [e1]
      simp only [Option.getD_some]
      rw [← e2]
    · dsimp only at hi hj ⊢
      obtain ⟨a', e1, e2⟩ := haddr i hi (by omega)
      have h2 := (hrow i (by omega)).2.1
      have := ((hrow i (by omega)).2.2.2.2.2.2 a' e1).2 j (by omega)
      rw [e1]
      simp only [Option.getD_some]
      rw [e2, add_plain] at this
      exact this
    · dsimp only at hj hi ⊢
      obtain ⟨_, h2, _, h4, h5, _, _⟩ := hrow j (by omega)
      have hlt : i < (Z j).length := by omega
      have : (Z j).getD i 0 ∈ Z j := by simp [List.getD, List.getElem?_eq_getElem hlt]
      exact bounds_i64 (h5 _ this)

end Go.Proofs.Ytbfhchhggkpbdaa

/-
  A script that was handed in, as data.
-/
namespace Go.Proofs.Ytbfhchhggkpbdaa
open Go.ChangeShapes Go.WideShapes Go.ChangeAt Go.RowKit Go.Deep Go.Joins
set_option linter.unusedVariables false
set_option maxRecDepth 8000

theorem cellsOf3 : Try.prog.cellsOf 3 = 1 := by kernel_rfl

theorem open_script {H : Type} {enc : TypeId × Value → H} {W : World} {base : Nat} {held : Bool} {v : Value} {d : DataW H} {ps : List MemPlace} {r : Reach} {b0 : Nat}
    (hv : Value.okWide Try.prog W r b0 47 v) (h : DataW.Trod enc Try.prog W base (fun _ => true) held 47 v d ps) :
    ∃ (sa : Option Addr) (sb so n cap : Nat) (L : List Int), v = .slice sa n cap ∧ L.length = n ∧ n ≤ cap ∧ SIn W sa sb so L := by
  obtain ⟨a0, len, cap, rfl⟩ := okWide_slice Try.underlying47 hv
  obtain ⟨fuel, hf⟩ := h
  rcases open_ints Try.underlying47 Try.underlying3 cellsOf3 hf with ⟨hcs, _⟩ | ⟨a, len', cap', zs, hcs, _, hl, hm, hlen, _, hcell, _⟩
  · simp [Value.cells] at hcs
    obtain ⟨rfl, rfl, rfl⟩ := hcs
    exact ⟨none, 0, 0, 0, 0, [], rfl, rfl, Nat.le_refl _, ⟨fun h => absurd h (Nat.not_lt_zero _), fun j c hc => by simp at hc⟩⟩
  · simp [Value.cells] at hcs
    obtain ⟨rfl, rfl, rfl⟩ := hcs
    simp only [if_true] at hlen
    refine ⟨some a, a.block, a.off, len, cap, zs.take len, rfl, by simp; omega, hl, ?_⟩
    by_cases h0 : 0 < len
    · have h1 := hcell 0 (by omega)
      simp [Addr.add] at h1
      have ha := plain_addr h1
      obtain ⟨b, o, sp⟩ := a
      simp at ha
      subst ha
      refine ⟨fun _ => rfl, fun j c hc => ?_⟩
      have hj : j < len := by have := (List.getElem?_eq_some_iff.1 hc).1; simp at this; omega
      have h2 := hcell j (by omega)
      rw [add_plain] at h2
      rw [List.getElem?_take, if_pos hj] at hc
      rw [List.getD_eq_getElem?_getD, hc, Option.getD_some] at h2
      exact h2
    · obtain rfl : len = 0 := by omega
      exact ⟨fun h => by simp at h, fun j c hc => by simp at hc⟩
end Go.Proofs.Ytbfhchhggkpbdaa

/-
  What the reference's Seen, Memories and Same come to where both sides hold the same.
-/
namespace Go.Proofs.Ytbfhchhggkpbdaa
open Go.RowKit

set_option maxHeartbeats 1000000 in
theorem ref_seen (u v : Value) (l : List Se) (w : World) (hu : SeenAt w u l) (hv : SeenAt w v l) :
    Calls Try.prog 50 #[u, v] w fun e w' => e = .returned (.bool true) ∧ More w w' := by
  obtain ⟨a, b, o, c, rfl, ha, h1, hb⟩ := hu
  obtain ⟨a', b', o', c', rfl, ha', h1', _⟩ := hv
  obtain ⟨n, hn⟩ : ∃ n, l.length = n := ⟨_, rfl⟩
  have H : Hid ((0 < n → a = some ⟨b, o, none⟩) ∧ SeesAt w b o l ∧ (0 < n → a' = some ⟨b', o', none⟩) ∧ SeesAt w b' o' l ∧ n < 4611686018427387904 ∧ l.length = n) := by
    subst hn; exact ⟨ha, h1, ha', h1', hb, rfl⟩
  rw [hn]
  clear ha h1 ha' h1' hb hn
  go_enter Try.func50, Try.ntmps50
  go_wp2
  go_loopg [5] n (fun q i wr => ∃ k : Nat, k + q = n ∧ i = .int .i64 k ∧ More w wr)
  case atStart => exact ⟨0, by omega, rfl, More.refl _⟩
  case round =>
    obtain ⟨k, hkg, rfl, m⟩ := hrel
    have Hm : Hid (More w wr) := m
    clear m
    cases gk with
    | zero =>
      obtain rfl : k = n := by omega
      go_wp2
      go_ret
      exact ⟨rfl, Hm.out⟩
    | succ q =>
      have hk : k < n := by omega
      have hk' : (k : Int) < (n : Int) := by omega
      have hk0 : (0 : Int) ≤ (k : Int) := by omega
      obtain rfl := H.out.1 (by omega)
      obtain rfl := H.out.2.2.1 (by omega)
      obtain ⟨s, Hs⟩ : ∃ s, Hid (l[k]? = some s) := ⟨_, List.getElem?_eq_getElem (by have := H.out.2.2.2.2.2; omega)⟩
      have q1 := (H.out.2.1.more Hm.out) k s Hs.out
      have q2 := (H.out.2.2.2.1.more Hm.out) k s Hs.out
      obtain ⟨x, y, z⟩ := s
      obtain ⟨S, HS⟩ : ∃ S : World → Prop, Hid (∀ w', S w' ↔ More wr w') := ⟨fun w' => More wr w', fun _ => Iff.rfl⟩
      have k0 : ∀ i : { w' // S w' }, i.val.cell? ⟨b, o + k * 3, none⟩ = some (.int .i64 x) := fun i => ((HS.out _).1 i.property).cell q1.1
      have k1 : ∀ i : { w' // S w' }, i.val.cell? ⟨b, o + k * 3 + 1, none⟩ = some (.int .i64 y) := fun i => ((HS.out _).1 i.property).cell q1.2.1
      have k2 : ∀ i : { w' // S w' }, i.val.cell? ⟨b, o + k * 3 + 2, none⟩ = some (.int .i64 z) := fun i => ((HS.out _).1 i.property).cell q1.2.2
      have d0 : ∀ i : { w' // S w' }, i.val.cell? ⟨b', o' + k * 3, none⟩ = some (.int .i64 x) := fun i => ((HS.out _).1 i.property).cell q2.1
      have d1 : ∀ i : { w' // S w' }, i.val.cell? ⟨b', o' + k * 3 + 1, none⟩ = some (.int .i64 y) := fun i => ((HS.out _).1 i.property).cell q2.2.1
      have d2 : ∀ i : { w' // S w' }, i.val.cell? ⟨b', o' + k * 3 + 2, none⟩ = some (.int .i64 z) := fun i => ((HS.out _).1 i.property).cell q2.2.2
      have hne : Nonempty { w' // S w' } := ⟨⟨wr, (HS.out _).2 (More.refl _)⟩⟩
      clear q1 q2
      go_wp2_with (fail)
      refine wp_region_ord (S := S) [(0, true), (1, true), (2, true), (3, true), (4, true), (5, true), (6, true), (7, true), (8, true)] (by kernel_rfl) (by kernel_rfl) (by kernel_rfl) ((HS.out _).2 (More.refl _).drew) ?_
      iterate 9 (refine wpOrd_take rfl (by kernel_rfl) (fun K hK => ?_); go_simp; refine hK _ _ ?_; clear hK K)
      refine wpOrd_done ?_
      clear k0 k1 k2 d0 d1 d2 hne
      go_wp2
      go_roundg q
      case measure => omega
      case rel => exact ⟨k + 1, by omega, by first | rfl | (simp; unfold wrap64; have := H.out.2.2.2.2.1; omega), Hm.out.drew⟩

set_option maxHeartbeats 1000000 in
theorem ref_memories (x y : Mem) (l l' : MLoc) (w : World) (hx : MIn w x l) (hy : MIn w y l') (hl : x.Like y) :
    Calls Try.prog 31 #[.slice l.ma x.ml l.mc, .slice l'.ma y.ml l'.mc] w fun e w' => e = .returned (.bool true) ∧ More w w' := by
  obtain ⟨ma, mb, mo, mc, A, C, gb, go⟩ := l
  obtain ⟨ma', mb', mo', mc', A', C', gb', go'⟩ := l'
  have H : Hid (MIn w x ⟨ma, mb, mo, mc, A, C, gb, go⟩ ∧ MIn w y ⟨ma', mb', mo', mc', A', C', gb', go'⟩ ∧ x.Like y) := ⟨hx, hy, hl⟩
  clear hx hy hl
  obtain ⟨n, hn⟩ : ∃ n, x.ml = n := ⟨_, rfl⟩
  have hn' : y.ml = n := by rw [← H.out.2.2.ml]; exact hn
  dsimp only
  rw [hn, hn']
  have Hn : Hid (x.ml = n ∧ y.ml = n) := ⟨hn, hn'⟩
  clear hn hn'
  go_enter Try.func31, Try.ntmps31
  go_wp2
  go_loopg [5] n (fun q i wr => ∃ k : Nat, k + q = n ∧ i = .int .i64 k ∧ More w wr)
  case atStart => exact ⟨0, by omega, rfl, More.refl _⟩
  case round =>
    obtain ⟨k, hkg, rfl, m⟩ := hrel
    have Hm : Hid (More w wr) := m
    clear m
    cases gk with
    | zero =>
      obtain rfl : k = n := by omega
      go_wp2
      go_ret
      exact ⟨rfl, Hm.out⟩
    | succ q =>
      have hk : k < n := by omega
      have hk' : (k : Int) < (n : Int) := by omega
      have hk0 : (0 : Int) ≤ (k : Int) := by omega
      have Hk : Hid (k < x.ml ∧ k < y.ml) := ⟨by rw [Hn.out.1]; exact hk, by rw [Hn.out.2]; exact hk⟩
      obtain rfl : ma = some ⟨mb, mo, none⟩ := H.out.1.hm (by have := Hk.out.1; omega)
      obtain rfl : ma' = some ⟨mb', mo', none⟩ := H.out.2.1.hm (by have := Hk.out.2; omega)
      have q1 := H.out.1.lists k Hk.out.1
      have q2 := H.out.2.1.lists k Hk.out.2
      dsimp only at q1 q2
      rw [← H.out.2.2.len k Hk.out.1] at q2
      obtain ⟨r, hr⟩ : ∃ r, x.len k = r := ⟨_, rfl⟩
      rw [hr] at q1 q2
      have HR : Hid (x.len k = r ∧ r < 4611686018427387904) := ⟨hr, by rw [← hr]; exact H.out.1.fitw k Hk.out.1⟩
      clear hr
      have Ha : Hid (0 < r → A k = some ⟨gb k, go k, none⟩) := fun h => H.out.1.hg k Hk.out.1 (by rw [HR.out.1]; exact h)
      have Ha' : Hid (0 < r → A' k = some ⟨gb' k, go' k, none⟩) := fun h => H.out.2.1.hg k Hk.out.2 (by rw [← H.out.2.2.len k Hk.out.1, HR.out.1]; exact h)
      obtain ⟨Ak, hA⟩ : ∃ z, A k = z := ⟨_, rfl⟩
      obtain ⟨Ak', hA'⟩ : ∃ z, A' k = z := ⟨_, rfl⟩
      rw [hA] at q1 Ha
      rw [hA'] at q2 Ha'
      clear hA hA'
      have Hq : Hid (w.cell? ⟨mb, mo + k, none⟩ = some (.slice Ak r (C k)) ∧ w.cell? ⟨mb', mo' + k, none⟩ = some (.slice Ak' r (C' k))) := ⟨q1, q2⟩
      obtain ⟨S, HS⟩ : ∃ S : World → Prop, Hid (∀ w', S w' ↔ More wr w') := ⟨fun w' => More wr w', fun _ => Iff.rfl⟩
      have k0 : ∀ i : { w' // S w' }, i.val.cell? ⟨mb, mo + k, none⟩ = some (.slice Ak r (C k)) := fun i => ((HS.out _).1 i.property).cell (Hm.out.cell q1)
      have k1 : ∀ i : { w' // S w' }, i.val.cell? ⟨mb', mo' + k, none⟩ = some (.slice Ak' r (C' k)) := fun i => ((HS.out _).1 i.property).cell (Hm.out.cell q2)
      have hne : Nonempty { w' // S w' } := ⟨⟨wr, (HS.out _).2 (More.refl _)⟩⟩
      clear q1 q2
      go_wp2_with (fail)
      refine wp_region_ord (S := S) [(0, true), (1, true), (2, true), (3, true), (4, true), (5, true), (6, true), (7, true), (8, true), (9, true), (10, true)] (by kernel_rfl) (by kernel_rfl) (by kernel_rfl) ((HS.out _).2 (More.refl _).drew) ?_
      iterate 11 (refine wpOrd_take rfl (by kernel_rfl) (fun K hK => ?_); go_simp; refine hK _ _ ?_; clear hK K)
      refine wpOrd_done ?_
      clear k0 k1 hne
      go_wp2
      go_loopg [6] r (fun g i wq => ∃ j : Nat, j + g = r ∧ i = .int .i64 j ∧ More w wq)
      case atStart => exact ⟨0, by omega, rfl, Hm.out.drew⟩
      case round =>
        obtain ⟨j, hjg, rfl, mq⟩ := hrel
        have q1 := mq.cell Hq.out.1
        have q2 := mq.cell Hq.out.2
        have Hmq : Hid (More w wr) := mq
        clear mq
        cases gk with
        | zero =>
          obtain rfl : j = r := by omega
          go_wp2
          go_roundg q
          case measure => omega
          case rel => exact ⟨k + 1, by omega, by first | rfl | (simp; unfold wrap64; have := H.out.1.fitl; have := Hn.out.1; omega), Hmq.out⟩
        | succ g =>
          have hj : j < r := by omega
          have hj' : (j : Int) < (r : Int) := by omega
          have hj0 : (0 : Int) ≤ (j : Int) := by omega
          obtain rfl := Ha.out (by omega)
          obtain rfl := Ha'.out (by omega)
          have p1 := Hmq.out.cell (H.out.1.words k Hk.out.1 j (by rw [HR.out.1]; exact hj))
          have p2 := Hmq.out.cell (H.out.2.1.words k Hk.out.2 j (by rw [← H.out.2.2.len k Hk.out.1, HR.out.1]; exact hj))
          rw [← H.out.2.2.wd k Hk.out.1 j (by rw [HR.out.1]; exact hj)] at p2
          dsimp only at p1 p2
          obtain ⟨z, hz⟩ : ∃ z, x.wd k j = z := ⟨_, rfl⟩
          rw [hz] at p1 p2
          clear hz
          obtain ⟨S, HS⟩ : ∃ S : World → Prop, Hid (∀ w', S w' ↔ More wr w') := ⟨fun w' => More wr w', fun _ => Iff.rfl⟩
          have k0 : ∀ i : { w' // S w' }, i.val.cell? ⟨mb, mo + k, none⟩ = some (.slice (some ⟨gb k, go k, none⟩) r (C k)) := fun i => ((HS.out _).1 i.property).cell q1
          have k1 : ∀ i : { w' // S w' }, i.val.cell? ⟨mb', mo' + k, none⟩ = some (.slice (some ⟨gb' k, go' k, none⟩) r (C' k)) := fun i => ((HS.out _).1 i.property).cell q2
          have k2 : ∀ i : { w' // S w' }, i.val.cell? ⟨gb k, go k + j, none⟩ = some (.int .i64 z) := fun i => ((HS.out _).1 i.property).cell p1
          have k3 : ∀ i : { w' // S w' }, i.val.cell? ⟨gb' k, go' k + j, none⟩ = some (.int .i64 z) := fun i => ((HS.out _).1 i.property).cell p2
          have hne : Nonempty { w' // S w' } := ⟨⟨wr, (HS.out _).2 (More.refl _)⟩⟩
          go_wp2_with (fail)
          refine wp_region_ord (S := S) [(0, true), (1, true), (2, true), (3, true), (4, true), (5, true), (6, true), (7, true), (8, true), (9, true), (10, true), (11, true), (12, true), (13, true), (14, true)] (by kernel_rfl) (by kernel_rfl) (by kernel_rfl) ((HS.out _).2 (More.refl _).drew) ?_
          iterate 15 (refine wpOrd_take rfl (by kernel_rfl) (fun K hK => ?_); go_simp; refine hK _ _ ?_; clear hK K)
          refine wpOrd_done ?_
          clear k0 k1 k2 k3 hne p1 p2 q1 q2
          go_wp2
          go_roundg g
          case measure => omega
          case rel => exact ⟨j + 1, by omega, by first | rfl | (simp; unfold wrap64; have := HR.out.2; omega), Hmq.out.drew⟩

set_option maxHeartbeats 1000000 in
theorem ref_same (u v : Value) (x y : Sh) (w : World) (hu : ShownAt w u x) (hv : ShownAt w v y) (h1 : x.fin = y.fin) (h2 : x.val = y.val) (h3 : x.steps = y.steps) (h4 : x.seen = y.seen) (h5 : x.mem.Like y.mem) :
    Calls Try.prog 25 #[u, v] w fun e w' => e = .returned (.bool true) ∧ More w w' := by
  obtain ⟨fx, vx, tx, sx, mx⟩ := x
  obtain ⟨fy, vy, ty, sy, my⟩ := y
  dsimp only at h1 h2 h3 h4 h5
  subst h1 h2 h3 h4
  obtain ⟨sv, l, rfl, hs, hm⟩ := hu
  obtain ⟨sv', l', rfl, hs', hm'⟩ := hv
  dsimp only at hs hs' hm hm' ⊢
  have H : Hid (SeenAt w sv sx ∧ SeenAt w sv' sx ∧ MIn w mx l ∧ MIn w my l' ∧ mx.Like my) := ⟨hs, hs', hm, hm', h5⟩
  clear hs hs' hm hm' h5
  go_enter Try.func25, Try.ntmps25
  go_wp2_with (fail)
  have m0 : More w ((w.alloc (.cells #[.int .i64 fx, .int .i64 vx, .int .i64 tx, sv, .slice l.ma mx.ml l.mc] 37)).alloc (.cells #[.int .i64 fx, .int .i64 vx, .int .i64 tx, sv', .slice l'.ma my.ml l'.mc] 37)) := ((More.refl _).alloc _ _).alloc _ _
  refine (ref_seen sv sv' sx _ (H.out.1.more m0) (H.out.2.1.more m0)).mono ?_
  rintro e w1 ⟨rfl, m1⟩
  have e0 : w1.cell? ⟨w.heap.size, 4, none⟩ = some (.slice l.ma mx.ml l.mc) := m1.cell (by go_simp)
  have e1 : w1.cell? ⟨w.heap.size + 1, 4, none⟩ = some (.slice l'.ma my.ml l'.mc) := m1.cell (by go_simp)
  have Hm1 : Hid (More w w1) := m0.trans m1
  clear m0 m1
  go_wp2_with (fail)
  refine (ref_memories mx my l l' _ (H.out.2.2.1.more Hm1.out) (H.out.2.2.2.1.more Hm1.out) H.out.2.2.2.2).mono ?_
  rintro e w2 ⟨rfl, m2⟩
  have Hm2 : Hid (More w w2) := Hm1.out.trans m2
  clear m2 e0 e1
  go_wp2
  go_ret
  exact ⟨rfl, Hm2.out⟩

end Go.Proofs.Ytbfhchhggkpbdaa
