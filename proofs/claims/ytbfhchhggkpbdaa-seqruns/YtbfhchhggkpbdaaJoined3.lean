/-
  The texts Way, NewBad, New, Told, Run, Open, Fuel, Shape, Arr, one behind the other.
-/
import Derived.Test.YtbfhchhggkpbdaaJoined2
import Derived.Test.YtbfhchhggkpbdaaJoined0
import Derived.Deep.LoopGhost
import Derived.Lib.SliceRun
import Derived.Test.YtbfhchhggkpbdaaRows
import Derived.ProofKit
import Derived.OpenShut
import Derived.Deep.Slices
import Derived.Deep.SlicePairs
import Derived.Deep.Matrix
import Derived.Lib.SmallJoins
import Derived.WalkKit
import Derived.Deep.WholeRow

/-
  What holds of every state of a run stays so behind a step; and where the machine's loop stands. No walk but GoesOn's.
-/
namespace Go.Proofs.Ytbfhchhggkpbdaa
open Go.RowKit
set_option linter.unusedVariables false
set_option linter.unusedSimpArgs false

theorem opI_B64 (o x y : Int) : B64 (opI o x y) := by
  unfold opI
  repeat' split
  all_goals first | exact B64_wrap _ | exact B64_zero

theorem setR_B64 {r : Nat → Int} (hr : ∀ j, j < 10 → B64 (r j)) (a v : Int) (hv : B64 v) : ∀ j, j < 10 → B64 (setR r a v j) := by
  intro j hj
  unfold setR
  split
  · exact hv
  · exact hr j hj

theorem regsI_B64 {r : Nat → Int} (hr : ∀ j, j < 10 → B64 (r j)) (i : Ins) (hb : i.op = 2 → i.b.toNat < 10) (hn : B64 i.n) : ∀ j, j < 10 → B64 ((regsI r i).1 j) := by
  unfold regsI
  by_cases h1 : i.op = 1
  · rw [if_pos h1]; exact setR_B64 hr _ _ hn
  rw [if_neg h1]
  by_cases h2 : i.op = 2
  · rw [if_pos h2]; exact setR_B64 hr _ _ (hr _ (hb h2))
  rw [if_neg h2]
  by_cases h3 : i.op = 10
  · rw [if_pos h3]; exact setR_B64 hr _ _ (B64_wrap _)
  rw [if_neg h3]
  by_cases h4 : i.op = 11
  · rw [if_pos h4]
    dsimp only
    split
    · exact setR_B64 hr _ _ B64_zero
    · exact hr
  rw [if_neg h4]
  by_cases h5 : i.op = 12
  · rw [if_pos h5]; exact hr
  rw [if_neg h5]
  exact setR_B64 hr _ _ (opI_B64 _ _ _)
theorem regsI_len (r : Nat → Int) (i : Ins) : (regsI r i).2.length ≤ 1 := by
  unfold regsI
  repeat' split
  all_goals first | exact Nat.zero_le _ | exact Nat.le_refl _

theorem step_inv {p : Prg} {m : Mem} {k : Nat} {s : St} (h : Inv p m k s) (hat : s.at_ < p.cl) (hin : InsOk p.rl p.log p.cl 10 (p.ins s.at_)) (hn : B64 (p.ins s.at_).n) (hrl : m.ml = p.rl) : Inv p m (k + 1) (stepI p s).1 := by
  have hseen := h.seen
  have hl1 : ∀ l : List Se, l.length ≤ 1 → (s.seen ++ [(⟨1, s.at_, 0⟩ : Se)] ++ l).length ≤ 2 * (k + 1) := fun l hl => by simp; omega
  have hl0 : (s.seen ++ [(⟨1, s.at_, 0⟩ : Se)]).length ≤ 2 * (k + 1) := by simp; omega
  unfold stepI
  by_cases h7 : (p.ins s.at_).op = 7
  · rw [if_pos h7]
    have : 0 ≤ (p.ins s.at_).n ∧ (p.ins s.at_).n < p.cl := by unfold InsOk Plc at hin; simp [h7] at hin; exact hin.2.2.2
    exact ⟨by dsimp only; omega, h.r, h.ml, h.len, h.wd, hl0⟩
  rw [if_neg h7]
  by_cases h8 : (p.ins s.at_).op = 8
  · rw [if_pos h8]
    have : 0 ≤ (p.ins s.at_).n ∧ (p.ins s.at_).n < p.cl := by unfold InsOk Plc at hin; simp [h8] at hin; exact hin.2.2.2
    refine ⟨?_, h.r, h.ml, h.len, h.wd, hl0⟩
    dsimp only
    split <;> omega
  rw [if_neg h8]
  by_cases h9 : (p.ins s.at_).op = 9
  · rw [if_pos h9]; exact ⟨by dsimp only; omega, h.r, h.ml, h.len, h.wd, hl0⟩
  rw [if_neg h9]
  by_cases hp : 0 ≤ putI (p.ins s.at_)
  · rw [if_pos hp]
    have hop : (p.ins s.at_).op = 3 ∨ (p.ins s.at_).op = 4 ∨ (p.ins s.at_).op = 5 ∨ (p.ins s.at_).op = 6 := by
      unfold putI at hp
      by_cases e1 : (p.ins s.at_).op = 3 ∨ (p.ins s.at_).op = 5
      · omega
      · rw [if_neg e1] at hp
        by_cases e2 : (p.ins s.at_).op = 4 ∨ (p.ins s.at_).op = 6
        · omega
        · rw [if_neg e2] at hp; omega
    have hc : (p.ins s.at_).c.toNat < m.ml ∧ (p.ins s.at_).a.toNat < 10 := by
      unfold InsOk Reg Rgn at hin
      rcases hop with e | e | e | e <;> simp [e] at hin <;> omega
    by_cases hx : idxI s.r (p.ins s.at_) < 0 ∨ (s.m.len (p.ins s.at_).c.toNat : Int) ≤ idxI s.r (p.ins s.at_)
    · rw [if_pos hx]; exact ⟨by dsimp only; omega, h.r, h.ml, h.len, h.wd, hl0⟩
    rw [if_neg hx]
    have hlen := h.len (p.ins s.at_).c.toNat
    by_cases h1 : putI (p.ins s.at_) = 1
    · rw [if_pos h1]
      refine ⟨by dsimp only; omega, h.r, h.ml, h.len, fun j hj i hi => ?_, hl1 _ (Nat.le_refl _)⟩
      dsimp only [setW]
      split
      · exact h.r _ hc.2
      · exact h.wd j hj i hi
    · rw [if_neg h1]
      exact ⟨by dsimp only; omega, setR_B64 h.r _ _ (h.wd _ hc.1 _ (by omega)), h.ml, h.len, h.wd, hl1 _ (Nat.le_refl _)⟩
  rw [if_neg hp]
  refine ⟨by dsimp only; omega, regsI_B64 h.r _ (fun e => ?_) hn, h.ml, h.len, h.wd, hl1 _ (regsI_len _ _)⟩
  unfold InsOk Reg at hin
  simp [e] at hin
  omega

/-- What the machine is at the end. -/
structure Fin_ (m : Mem) (R : Sh) (x : Ms) (se : List Se) : Prop where
  fin : x.fin = R.fin
  val : x.val = R.val
  steps : x.steps = R.steps
  seen : se = R.seen
  w : Wds m R.mem x
  ml : R.mem.ml = m.ml
  len : ∀ j, R.mem.len j = m.len j
  short : se.length ≤ 100000

/-- What the machine is on the way. -/
structure Way (p : Prg) (m : Mem) (fuel g : Nat) (R : Sh) (x : Ms) (se : List Se) (k : Nat) (s : St) : Prop where
  kg : k + g = fuel
  rel : Rel m fuel x s k
  seen : se = s.seen
  inv : Inv p m k s
  run : runI p g k s = R

theorem Rel.shorter {m : Mem} {fuel : Nat} {x : Ms} {s : St} {k : Nat} (h : Rel m fuel x s k) (f v : Int) (mm : Mem) (e : mm = s.m) : Wds m mm { x with fin := f, ended := true } := by subst e; exact ⟨h.w.wd, h.w.st⟩

theorem goesOn_all (p : Prg) (m : Mem) (fuel g : Nat) (R : Sh) (w : World) (M : Nat) (rv : Value) (ca : Option Addr) (cc : Nat) (x : Ms) (se : List Se) (hf : fuel ≤ 40000) (h : Run w M rv (.slice ca p.cl cc) x se) (hw : (∃ k s, Way p m fuel g R x se k s) ∨ (x.ended = true ∧ Fin_ m R x se)) :
    Calls Try.prog 46 #[.pointer (some ⟨M, 0, none⟩)] w fun e w' => Below M w w' ∧ ∃ (b : Bool) (x' : Ms), e = .returned (.bool b) ∧ Run w' M rv (.slice ca p.cl cc) x' se ∧ ((b = false ∧ Fin_ m R x' se) ∨ (b = true ∧ ∃ g' k s, g = g' + 1 ∧ Way p m fuel g R x' se k s ∧ s.at_ < p.cl)) := by
  rcases hw with ⟨k, s, hw⟩ | ⟨he, hfin⟩
  · have hsh : se.length ≤ 100000 := by have := hw.inv.seen; have := hw.kg; rw [hw.seen]; omega
    cases g with
    | zero =>
      have hk := hw.kg
      refine (seq_goesOn_fuel w M rv _ x se h hw.rel.ended (by rw [hw.rel.steps, hw.rel.fuel]; omega)).mono ?_
      rintro e w' ⟨rfl, r2, b2⟩
      have hR := hw.run
      rw [runI] at hR
      subst hR
      exact ⟨b2, false, _, rfl, r2, .inl ⟨rfl, rfl, hw.rel.val, by dsimp only; rw [hw.rel.steps], hw.seen, hw.rel.shorter _ 0 _ rfl, hw.inv.ml, hw.inv.len, hsh⟩⟩
    | succ g' =>
      have hk := hw.kg
      by_cases hat : s.at_ < p.cl
      · refine (seq_goesOn_on w M rv ca p.cl cc x se h hw.rel.ended (by rw [hw.rel.steps, hw.rel.fuel]; omega) (by rw [hw.rel.next]; omega)).mono ?_
        rintro e w' ⟨rfl, r2, b2⟩
        exact ⟨b2, true, x, rfl, r2, .inr ⟨rfl, g', k, s, rfl, hw, hat⟩⟩
      · refine (seq_goesOn_next w M rv ca p.cl cc x se h hw.rel.ended (by rw [hw.rel.steps, hw.rel.fuel]; omega) (by rw [hw.rel.next]; omega)).mono ?_
        rintro e w' ⟨rfl, r2, b2⟩
        have hR := hw.run
        rw [runI, if_pos (by omega)] at hR
        subst hR
        exact ⟨b2, false, _, rfl, r2, .inl ⟨rfl, rfl, hw.rel.val, by dsimp only; rw [hw.rel.steps], hw.seen, hw.rel.shorter _ 0 _ rfl, hw.inv.ml, hw.inv.len, hsh⟩⟩
  · refine (seq_goesOn_over w M rv _ x se h he).mono ?_
    rintro e w' ⟨rfl, r2, b2⟩
    exact ⟨b2, false, x, rfl, r2, .inl ⟨rfl, hfin⟩⟩

/-- Behind a step. -/
theorem way_next {p : Prg} {m : Mem} {fuel g' : Nat} {R : Sh} {x x' : Ms} {se : List Se} {k : Nat} {s : St} (hw : Way p m fuel (g' + 1) R x se k s) (hat : s.at_ < p.cl) (hin : InsOk p.rl p.log p.cl 10 (p.ins s.at_)) (hn : B64 (p.ins s.at_).n) (hrl : m.ml = p.rl) (hf : fuel ≤ 40000)
    (ha : After m fuel x' (k + 1) (stepI p s)) : (∃ k s', Way p m fuel g' R x' (stepI p s).1.seen k s') ∨ (x'.ended = true ∧ Fin_ m R x' (stepI p s).1.seen) := by
  have hi := step_inv hw.inv hat hin hn hrl
  have hR := hw.run
  rw [runI, if_neg (by omega)] at hR
  have hk := hw.kg
  have hs := hi.seen
  unfold After at ha
  cases hq : (stepI p s).2 with
  | none =>
    rw [hq] at ha hR
    exact .inl ⟨k + 1, _, by omega, ha, rfl, hi, hR⟩
  | some e =>
    rw [hq] at ha hR
    dsimp only at hR ha
    subst hR
    refine .inr ⟨ha.ended, ha.fin, ha.val, by rw [ha.steps]; push_cast; rfl, rfl, ha.w, hi.ml, hi.len, by omega⟩

end Go.Proofs.Ytbfhchhggkpbdaa

/-
  What package seq's New comes to.
-/
namespace Go.Proofs.Ytbfhchhggkpbdaa
open Go.RowKit
set_option linter.unusedVariables false
set_option linter.unusedSimpArgs false
set_option maxRecDepth 8000

theorem heap_alloc2_last (w : World) (a b : Obj) : ((w.alloc a).alloc b).heap[w.heap.size + 1]? = some b := by
  have := heap_alloc_last (w.alloc a) b
  rwa [show (w.alloc a).heap.size = w.heap.size + 1 from by simp] at this
theorem size_alloc2 (w : World) (a b : Obj) : w.heap.size + 1 < ((w.alloc a).alloc b).heap.size := by simp

theorem zrow : ∃ z : Array Value, (∀ w, (zeroValue 77).run Try.prog w = .ok (.agg z) w) ∧ (∀ w, (Instr.build 77 #[]).run Try.prog w = .ok (.agg z) w) ∧ MC z (.slice none 0 0) (.slice none 0 0) (ms0 0) ∧ (Try.prog.info? 77).map (·.size) = some 411 := by
  obtain ⟨h1, h2⟩ := zero_of_info info70
  exact ⟨_, h1, fun w => run_build w 77 #[] _ (by simpa using built70_none), rowOf_mc _ _ (ms0 0), h2⟩

set_option maxHeartbeats 1000000 in
theorem seq_new_form (p : Prg) (l : Loc) (ma : Option Addr) (ml mc mb mo : Nat) (A : Nat → Option Addr) (L C : Nat → Nat) (fuel : Int) (w : World) (h : PIn w p l) (hma : 0 < ml → ma = some ⟨mb, mo, none⟩) (hm : ListsAt w mb mo ml A L C) (hbad : ¬ (p.Ok 8000 10 ∧ FitsOk p.rl p.log ml L)) :
    Calls Try.prog 45 #[.agg #[.slice l.ra p.rl l.rc, .slice l.ca p.cl l.cc], .slice ma ml mc, .int .i64 fuel] w fun e w' => ∃ z, MC z (.slice none 0 0) (.slice none 0 0) (ms0 0) ∧ e = .returned (.tuple #[.agg z, .int .i64 2]) ∧ More w w' := by
  obtain ⟨z, z1, z2, z3, z4⟩ := zrow
  have H : Hid (PIn w p l ∧ (0 < ml → ma = some ⟨mb, mo, none⟩) ∧ ListsAt w mb mo ml A L C ∧ ¬ (p.Ok 8000 10 ∧ FitsOk p.rl p.log ml L)) := ⟨h, hma, hm, hbad⟩
  have Hz : Hid (MC z (.slice none 0 0) (.slice none 0 0) (ms0 0) ∧ (Try.prog.info? 77).map (·.size) = some 411 ∧ z.size = 411) := ⟨z3, z4, z3.size rfl⟩
  obtain ⟨P, hP⟩ : ∃ P, P = fun (e : Ending) (w' : World) => ∃ z, MC z (.slice none 0 0) (.slice none 0 0) (ms0 0) ∧ e = .returned (.tuple #[.agg z, .int .i64 2]) ∧ More w w' := ⟨_, rfl⟩
  rw [← hP]
  have HP : Hid (P = fun (e : Ending) (w' : World) => ∃ z, MC z (.slice none 0 0) (.slice none 0 0) (ms0 0) ∧ e = .returned (.tuple #[.agg z, .int .i64 2]) ∧ More w w') := hP
  clear h hma hm z3 z4 hP hbad
  go_enter Try.func45, Try.ntmps45
  go_wp2_with (fail)
  refine (hard_calls p l _ (H.out.1.more (((More.refl _).alloc _ _).alloc _ _))).mono ?_
  rintro e w1 ⟨r1, rfl, h1, m1⟩
  have hrow : w1.heap[w.heap.size + 1]? = some (.cells z 77 (0, 0)) := by rw [m1.block (w.heap.size + 1) (size_alloc2 _ _ _)]; exact heap_alloc2_last _ _ _
  have e0 : w1.cell? ⟨w.heap.size, 0, none⟩ = some (.slice l.ra p.rl l.rc) := m1.cell (by go_simp)
  have e1 : w1.cell? ⟨w.heap.size, 1, none⟩ = some (.slice l.ca p.cl l.cc) := m1.cell (by go_simp)
  have Hm1 : Hid (More w w1) := (((More.refl _).alloc _ _).alloc _ _).trans m1
  clear m1
  cases r1 with
  | false =>
    clear h1
    go_wp2_with (refine wpList_store_row rfl 77 (.tmp 6) (.tmp 20) rfl (w.heap.size + 1) z rfl rfl 77 z hrow (by rw [Hz.out.2.2]; exact Hz.out.2.1) rfl (Hz.out.1.one rfl rfl rfl rfl rfl) ?_; rw [setRow_self _ _ _ _ _ hrow])
    refine bodyPost_ret (results_row_tmp rfl _ _ (w.heap.size + 1) 77 z (0, 0) _ rfl hrow Try.underlying77 rfl (by rw [Hz.out.2.2]; exact Hz.out.2.1)) rfl ?_
    rw [HP.out]
    exact ⟨z, Hz.out.1, rfl, Hm1.out⟩
  | true =>
    have HA : Hid (p.Ok 8000 10) := h1.1 rfl
    clear h1
    go_wp2_with (fail)
    refine (fits_calls l.ra p.rl l.rc l.ca p.cl l.cc ma ml mc l.rb l.ro mb mo p.log p.sec A L C _ H.out.1.hr (H.out.1.regs.more Hm1.out) H.out.2.1 (H.out.2.2.1.more Hm1.out)).mono ?_
    rintro e w2 ⟨r2, rfl, h2, m2⟩
    have Hm2 : Hid (More w w2) := Hm1.out.trans m2
    have hrow2 : w2.heap[w.heap.size + 1]? = some (.cells z 77 (0, 0)) := by rw [m2.block (w.heap.size + 1) (by rcases Nat.lt_or_ge (w.heap.size + 1) w1.heap.size with h' | h'; exact h'; rw [Array.getElem?_eq_none h'] at hrow; cases hrow)]; exact hrow
    clear hrow
    have hrow := hrow2
    clear m2 e0 e1 hrow2
    cases r2 with
    | true => exact absurd ⟨HA.out, h2.1 rfl⟩ H.out.2.2.2
    | false =>
      clear h2
      go_wp2_with (refine wpList_store_row rfl 77 (.tmp 6) (.tmp 20) rfl (w.heap.size + 1) z rfl rfl 77 z hrow (by rw [Hz.out.2.2]; exact Hz.out.2.1) rfl (Hz.out.1.one rfl rfl rfl rfl rfl) ?_; rw [setRow_self _ _ _ _ _ hrow])
      refine bodyPost_ret (results_row_tmp rfl _ _ (w.heap.size + 1) 77 z (0, 0) _ rfl hrow Try.underlying77 rfl (by rw [Hz.out.2.2]; exact Hz.out.2.1)) rfl ?_
      rw [HP.out]
      exact ⟨z, Hz.out.1, rfl, Hm2.out⟩

set_option maxHeartbeats 1000000 in
theorem seq_new_range (p : Prg) (l : Loc) (ma : Option Addr) (ml mc mb mo : Nat) (A : Nat → Option Addr) (L C : Nat → Nat) (fuel : Int) (w : World) (h : PIn w p l) (hma : 0 < ml → ma = some ⟨mb, mo, none⟩) (hm : ListsAt w mb mo ml A L C) (hok : p.Ok 8000 10) (hfit : FitsOk p.rl p.log ml L) (hf : fuel < 0 ∨ 40000 < fuel) :
    Calls Try.prog 45 #[.agg #[.slice l.ra p.rl l.rc, .slice l.ca p.cl l.cc], .slice ma ml mc, .int .i64 fuel] w fun e w' => ∃ z, MC z (.slice none 0 0) (.slice none 0 0) (ms0 0) ∧ e = .returned (.tuple #[.agg z, .int .i64 3]) ∧ More w w' := by
  have hb3 : p.Ok 8000 10 ∧ FitsOk p.rl p.log ml L ∧ (fuel < 0 ∨ 40000 < fuel) := ⟨hok, hfit, hf⟩
  clear hok hfit hf
  obtain ⟨z, z1, z2, z3, z4⟩ := zrow
  have H : Hid (PIn w p l ∧ (0 < ml → ma = some ⟨mb, mo, none⟩) ∧ ListsAt w mb mo ml A L C ∧ (p.Ok 8000 10 ∧ FitsOk p.rl p.log ml L ∧ (fuel < 0 ∨ 40000 < fuel))) := ⟨h, hma, hm, hb3⟩
  have Hz : Hid (MC z (.slice none 0 0) (.slice none 0 0) (ms0 0) ∧ (Try.prog.info? 77).map (·.size) = some 411 ∧ z.size = 411) := ⟨z3, z4, z3.size rfl⟩
  obtain ⟨P, hP⟩ : ∃ P, P = fun (e : Ending) (w' : World) => ∃ z, MC z (.slice none 0 0) (.slice none 0 0) (ms0 0) ∧ e = .returned (.tuple #[.agg z, .int .i64 3]) ∧ More w w' := ⟨_, rfl⟩
  rw [← hP]
  have HP : Hid (P = fun (e : Ending) (w' : World) => ∃ z, MC z (.slice none 0 0) (.slice none 0 0) (ms0 0) ∧ e = .returned (.tuple #[.agg z, .int .i64 3]) ∧ More w w') := hP
  clear h hma hm z3 z4 hP hb3
  go_enter Try.func45, Try.ntmps45
  go_wp2_with (fail)
  refine (hard_calls p l _ (H.out.1.more (((More.refl _).alloc _ _).alloc _ _))).mono ?_
  rintro e w1 ⟨r1, rfl, h1, m1⟩
  have hrow : w1.heap[w.heap.size + 1]? = some (.cells z 77 (0, 0)) := by rw [m1.block (w.heap.size + 1) (size_alloc2 _ _ _)]; exact heap_alloc2_last _ _ _
  have e0 : w1.cell? ⟨w.heap.size, 0, none⟩ = some (.slice l.ra p.rl l.rc) := m1.cell (by go_simp)
  have e1 : w1.cell? ⟨w.heap.size, 1, none⟩ = some (.slice l.ca p.cl l.cc) := m1.cell (by go_simp)
  have Hm1 : Hid (More w w1) := (((More.refl _).alloc _ _).alloc _ _).trans m1
  clear m1
  obtain rfl : r1 = true := h1.2 H.out.2.2.2.1
  clear h1
  go_wp2_with (fail)
  refine (fits_calls l.ra p.rl l.rc l.ca p.cl l.cc ma ml mc l.rb l.ro mb mo p.log p.sec A L C _ H.out.1.hr (H.out.1.regs.more Hm1.out) H.out.2.1 (H.out.2.2.1.more Hm1.out)).mono ?_
  rintro e w2 ⟨r2, rfl, h2, m2⟩
  have Hm2 : Hid (More w w2) := Hm1.out.trans m2
  have hrow2 : w2.heap[w.heap.size + 1]? = some (.cells z 77 (0, 0)) := by rw [m2.block (w.heap.size + 1) (by rcases Nat.lt_or_ge (w.heap.size + 1) w1.heap.size with h' | h'; exact h'; rw [Array.getElem?_eq_none h'] at hrow; cases hrow)]; exact hrow
  clear hrow
  have hrow := hrow2
  obtain rfl : r2 = true := h2.2 H.out.2.2.2.2.1
  clear m2 e0 e1 hrow2 h2
  by_cases hf : fuel < 0
  · go_wp2_with (refine wpList_store_row rfl 77 (.tmp 6) (.tmp 27) rfl (w.heap.size + 1) z rfl rfl 77 z hrow (by rw [Hz.out.2.2]; exact Hz.out.2.1) rfl (Hz.out.1.one rfl rfl rfl rfl rfl) ?_; rw [setRow_self _ _ _ _ _ hrow])
    refine bodyPost_ret (results_row_tmp rfl _ _ (w.heap.size + 1) 77 z (0, 0) _ rfl hrow Try.underlying77 rfl (by rw [Hz.out.2.2]; exact Hz.out.2.1)) rfl ?_
    rw [HP.out]
    exact ⟨z, Hz.out.1, rfl, Hm2.out⟩
  · have hf2 : 40000 < fuel := by have := H.out.2.2.2.2.2; omega
    have hf1 : decide (fuel < 0) = false := by simp; omega
    go_wp2_with (refine wpList_store_row rfl 77 (.tmp 6) (.tmp 27) rfl (w.heap.size + 1) z rfl rfl 77 z hrow (by rw [Hz.out.2.2]; exact Hz.out.2.1) rfl (Hz.out.1.one rfl rfl rfl rfl rfl) ?_; rw [setRow_self _ _ _ _ _ hrow])
    refine bodyPost_ret (results_row_tmp rfl _ _ (w.heap.size + 1) 77 z (0, 0) _ rfl hrow Try.underlying77 rfl (by rw [Hz.out.2.2]; exact Hz.out.2.1)) rfl ?_
    rw [HP.out]
    exact ⟨z, Hz.out.1, rfl, Hm2.out⟩

end Go.Proofs.Ytbfhchhggkpbdaa

/-
  What package seq's New comes to where nothing is wrong: a machine ahead of its first step, with the words of memory.
-/
namespace Go.Proofs.Ytbfhchhggkpbdaa
open Go.RowKit
set_option linter.unusedVariables false
set_option linter.unusedSimpArgs false
set_option maxRecDepth 8000

theorem MC.set {c : Array Value} {rv cv rv' cv' : Value} {x x' : Ms} (h : MC c rv cv x) (j : Nat) (v : Value) (hj : j < 411) (ht : x'.tl = x.tl) (hx : ∀ i, i < 411 → cellF rv' cv' x' i = if i = j then v else cellF rv cv x i) : MC (c.setIfInBounds j v) rv' cv' x' := by
  refine ⟨by simp [h.big], fun i hi => ?_, fun i hi => ?_⟩
  · rw [hx i hi, Array.getElem?_setIfInBounds]
    by_cases e : i = j
    · subst e
      rw [if_pos rfl, if_pos rfl, if_pos (by have := h.big; omega)]
    · rw [if_neg (fun h => e h.symm), if_neg e]
      exact h.at_ i hi
  · rw [Array.getElem?_setIfInBounds, if_neg (by omega), ht]
    exact h.tail i hi
theorem MC.first {z : Array Value} (h : MC z (.slice none 0 0) (.slice none 0 0) (ms0 0)) (rv cv : Value) (fuel : Int) : MC (((z.setIfInBounds 0 rv).setIfInBounds 1 cv).setIfInBounds 402 (.int .i64 fuel)) rv cv (ms0 fuel) := by
  have h1 : MC (z.setIfInBounds 0 rv) rv (.slice none 0 0) (ms0 0) := h.set 0 rv (by omega) rfl fun i hi => by unfold cellF; by_cases e : i = 0 <;> simp [e]
  have h2 : MC ((z.setIfInBounds 0 rv).setIfInBounds 1 cv) rv cv (ms0 0) := h1.set 1 cv (by omega) rfl fun i hi => by unfold cellF; by_cases e : i = 1 <;> simp [e]
  exact h2.set 402 _ (by omega) rfl fun i hi => by unfold cellF ms0; by_cases e : i = 402 <;> simp [e]

theorem info2s : (Try.prog.info? 2).map (·.size) = some 1 := by kernel_rfl
theorem More.trans_setRow {w w' : World} {g : Nat} {c : Array Value} (h : More w w') (hg : w.heap.size ≤ g) : More w (w'.setRow g c) :=
  Below.trans h ⟨rfl, rfl, rfl, by simp [World.setRow], fun k hk => setRow_other w' g k c (by omega)⟩

theorem MC.like {c : Array Value} {rv cv : Value} {x : Ms} (h : MC c rv cv x) {w : World} {M : Nat} (hh : w.heap[M]? = some (.cells c x.T (0, 0))) : MAt w M rv cv x := ⟨c, hh, h⟩

set_option maxHeartbeats 2000000 in
theorem seq_new (p : Prg) (l : Loc) (m : Mem) (ml : MLoc) (fuel : Int) (w : World) (h : PIn w p l) (hm : MIn w m ml) (hok : p.Ok 8000 10) (hfit : FitsOk p.rl p.log m.ml m.len) (hlen : ∀ i, i < m.ml → 0 < m.len i ∧ m.len i ≤ 64) (f0 : 0 ≤ fuel) (f1 : fuel ≤ 40000) :
    Calls Try.prog 45 #[.agg #[.slice l.ra p.rl l.rc, .slice l.ca p.cl l.cc], .slice ml.ma m.ml ml.mc, .int .i64 fuel] w fun e w' => ∃ (c : Array Value) (W S : Nat → Int), e = .returned (.tuple #[.agg c, .int .i64 0]) ∧ MC c (.slice l.ra p.rl l.rc) (.slice l.ca p.cl l.cc) { ms0 fuel with wd := W, st := S } ∧
      (∀ j, j ≤ m.ml → S j = (baseN m.len j : Int)) ∧ (∀ j, j < m.ml → ∀ i, i < m.len j → W (baseN m.len j + i) = m.wd j i) ∧ More w w' := by
  obtain ⟨z, z1, z2, z3, z4⟩ := zrow
  obtain ⟨ma, mb, mo, mc, A, C0, gb, go⟩ := ml
  have H : Hid (PIn w p l ∧ MIn w m ⟨ma, mb, mo, mc, A, C0, gb, go⟩ ∧ p.Ok 8000 10 ∧ FitsOk p.rl p.log m.ml m.len ∧ (∀ i, i < m.ml → 0 < m.len i ∧ m.len i ≤ 64)) := ⟨h, hm, hok, hfit, hlen⟩
  have Hz : Hid (MC z (.slice none 0 0) (.slice none 0 0) (ms0 0) ∧ (Try.prog.info? 77).map (·.size) = some 411 ∧ z.size = 411) := ⟨z3, z4, z3.size rfl⟩
  have hzs : z.size = 411 := z3.size rfl
  have Hc : Hid (MC (((z.setIfInBounds 0 (.slice l.ra p.rl l.rc)).setIfInBounds 1 (.slice l.ca p.cl l.cc)).setIfInBounds 402 (.int .i64 fuel)) (.slice l.ra p.rl l.rc) (.slice l.ca p.cl l.cc) (ms0 fuel)) := z3.first _ _ _
  obtain ⟨P, hP⟩ : ∃ P, P = fun (e : Ending) (w' : World) => ∃ (c : Array Value) (W S : Nat → Int), e = .returned (.tuple #[.agg c, .int .i64 0]) ∧ MC c (.slice l.ra p.rl l.rc) (.slice l.ca p.cl l.cc) { ms0 fuel with wd := W, st := S } ∧
      (∀ j, j ≤ m.ml → S j = (baseN m.len j : Int)) ∧ (∀ j, j < m.ml → ∀ i, i < m.len j → W (baseN m.len j + i) = m.wd j i) ∧ More w w' := ⟨_, rfl⟩
  rw [← hP]
  have HP : Hid (P = fun (e : Ending) (w' : World) => ∃ (c : Array Value) (W S : Nat → Int), e = .returned (.tuple #[.agg c, .int .i64 0]) ∧ MC c (.slice l.ra p.rl l.rc) (.slice l.ca p.cl l.cc) { ms0 fuel with wd := W, st := S } ∧
      (∀ j, j ≤ m.ml → S j = (baseN m.len j : Int)) ∧ (∀ j, j < m.ml → ∀ i, i < m.len j → W (baseN m.len j + i) = m.wd j i) ∧ More w w') := hP
  dsimp only
  obtain ⟨n, hn⟩ : ∃ n, m.ml = n := ⟨_, rfl⟩
  rw [hn]
  have Hn : Hid (m.ml = n) := hn
  clear h hm hok hfit hlen z3 z4 hP hn
  have f2 : ¬ fuel < 0 := by omega
  have f3 : ¬ 40000 < fuel := by omega
  have f2' : decide (fuel < 0) = false := by simp; omega
  have f3' : decide (40000 < fuel) = false := by simp; omega
  go_enter Try.func45, Try.ntmps45
  go_wp2_with (fail)
  refine (hard_calls p l _ (H.out.1.more (((More.refl _).alloc _ _).alloc _ _))).mono ?_
  rintro e w1 ⟨r1, rfl, h1, m1⟩
  obtain rfl : r1 = true := h1.2 H.out.2.2.1
  have hrow1 : w1.heap[w.heap.size + 1]? = some (.cells z 77 (0, 0)) := by rw [m1.block (w.heap.size + 1) (size_alloc2 _ _ _)]; exact heap_alloc2_last _ _ _
  have e0 : w1.cell? ⟨w.heap.size, 0, none⟩ = some (.slice l.ra p.rl l.rc) := m1.cell (by go_simp)
  have e1 : w1.cell? ⟨w.heap.size, 1, none⟩ = some (.slice l.ca p.cl l.cc) := m1.cell (by go_simp)
  have Hm1 : Hid (More w w1) := (((More.refl _).alloc _ _).alloc _ _).trans m1
  have s1 : w.heap.size + 2 ≤ w1.heap.size := by have := m1.size; have := size_alloc2 w (.cells #[.slice l.ra p.rl l.rc, .slice l.ca p.cl l.cc] 29) (.cells z 77); omega
  clear m1 h1
  go_wp2_with (fail)
  refine (fits_calls l.ra p.rl l.rc l.ca p.cl l.cc ma n mc l.rb l.ro mb mo p.log p.sec A m.len C0 _ H.out.1.hr (H.out.1.regs.more Hm1.out) (by rw [← Hn.out]; exact H.out.2.1.hm) (by rw [← Hn.out]; exact H.out.2.1.lists.more Hm1.out)).mono ?_
  rintro e w2 ⟨r2, rfl, h2, m2⟩
  obtain rfl : r2 = true := h2.2 (by rw [← Hn.out]; exact H.out.2.2.2.1)
  have hrow2 : w2.heap[w.heap.size + 1]? = some (.cells z 77 (0, 0)) := by rw [m2.block (w.heap.size + 1) (by omega)]; exact hrow1
  have e0' := m2.cell e0
  have e1' := m2.cell e1
  have Hm2 : Hid (More w w2) := Hm1.out.trans m2
  have s2 : w.heap.size + 2 ≤ w2.heap.size := by have := m2.size; omega
  clear m2 h2 e0 e1 hrow1
  go_wp2_with (refine wpList_store_row rfl 77 (.tmp 8) (.tmp 30) rfl w2.heap.size (((z.setIfInBounds 0 (.slice l.ra p.rl l.rc)).setIfInBounds 1 (.slice l.ca p.cl l.cc)).setIfInBounds 402 (.int .i64 fuel)) rfl rfl 77 z (heap_alloc_last _ _) (by rw [Hc.out.size rfl]; exact Hz.out.2.1) (by rw [Hc.out.size rfl, Hz.out.2.2]) (Hc.out.one rfl rfl rfl rfl rfl) ?_; rw [World.setRow_alloc_new])
  have HN0 : Hid (Nw w (w2.alloc (.cells (((z.setIfInBounds 0 (.slice l.ra p.rl l.rc)).setIfInBounds 1 (.slice l.ca p.cl l.cc)).setIfInBounds 402 (.int .i64 fuel)) 77)) (.slice l.ra p.rl l.rc) (.slice l.ca p.cl l.cc) w2.heap.size m fuel z 0 (fun _ => 0) (fun _ => 0)) :=
    ⟨Hm2.out.alloc _ _, s2, ⟨_, heap_alloc_last _ _, Hc.out⟩, fun j hj => by obtain rfl : j = 0 := by omega
                                                                             rfl, fun j hj => by omega, by rw [(World.grownBy_alloc w2 _ none).block _ (by omega) (by simp)]; exact hrow2⟩
  clear hrow2 e0' e1' hzs
  go_loopg [33] n (fun q i wr => ∃ (k : Nat) (W S : Nat → Int), k + q = n ∧ i = .int .i64 k ∧ Nw w wr (.slice l.ra p.rl l.rc) (.slice l.ca p.cl l.cc) w2.heap.size m fuel z k W S)
  case atStart => exact ⟨0, _, _, by omega, rfl, HN0.out⟩
  case round =>
    obtain ⟨k, W, S, hkq, rfl, hN⟩ := hrel
    have HNk : Hid (Nw w wr (.slice l.ra p.rl l.rc) (.slice l.ca p.cl l.cc) w2.heap.size m fuel z k W S) := hN
    clear hN HN0
    cases gk with
    | zero =>
      obtain rfl : k = n := by omega
      obtain ⟨c, hh, mc⟩ := HNk.out.at_.out
      have Hcc : Hid (MC c (.slice l.ra p.rl l.rc) (.slice l.ca p.cl l.cc) { ms0 fuel with wd := W, st := S }) := mc
      have hres := HNk.out.res
      have i70 : Hid ((Try.prog.info? 77).map (·.size) = some c.size) := by rw [show Hid ((Try.prog.info? 77).map (·.size) = some c.size) = ((Try.prog.info? 77).map (·.size) = some c.size) from rfl, Hcc.out.size rfl]; exact Hz.out.2.1
      clear mc
      go_wp2_with (first
        | (refine wpList_load_row rfl 77 (.tmp 8) rfl w2.heap.size rfl 77 c (0, 0) _ hh Try.underlying77 rfl i70.out ?_)
        | (refine wpList_store_row rfl 77 (.tmp 6) (.tmp 57) rfl (w.heap.size + 1) c rfl rfl 77 z hres i70.out (by rw [Hcc.out.size rfl, Hz.out.2.2]) (Hcc.out.one rfl rfl rfl rfl rfl) ?_))
      refine bodyPost_ret (results_row_tmp rfl _ _ (w.heap.size + 1) 77 c (0, 0) _ rfl (setRow_heap _ _ _ _ _ _ hres) Try.underlying77 rfl i70.out) rfl ?_
      rw [HP.out]
      refine ⟨c, W, S, rfl, Hcc.out, by rw [Hn.out]; exact HNk.out.st, by rw [Hn.out]; exact HNk.out.wd, ?_⟩
      exact HNk.out.more.trans_setRow (by omega)
    | succ q =>
      have hk : k < n := by omega
      have hk' : (k : Int) < (n : Int) := by omega
      have hk0 : (0 : Int) ≤ (k : Int) := by omega
      have Hk : Hid (k < m.ml ∧ m.ml ≤ 6) := ⟨by rw [Hn.out]; exact hk, by have := H.out.2.2.2.1; have h1 := this.2.1; have h2 := this.1.1; omega⟩
      obtain rfl : ma = some ⟨mb, mo, none⟩ := H.out.2.1.hm (by have := Hk.out; omega)
      have q1 := (H.out.2.1.lists.more HNk.out.more) k Hk.out.1
      dsimp only at q1
      rw [show A k = some ⟨gb k, go k, none⟩ from H.out.2.1.hg k Hk.out.1 (H.out.2.2.2.2 k Hk.out.1).1] at q1
      have Hb : Hid (baseN m.len (k + 1) ≤ 384 ∧ 0 < m.len k ∧ m.len k ≤ 64) := by
        refine ⟨?_, H.out.2.2.2.2 k Hk.out.1⟩
        have := baseN_le m.len (k + 1) (fun j hj => (H.out.2.2.2.2 j (by have := Hk.out; omega)).2)
        have := Hk.out
        omega
      have t0 : wr.cell? ⟨w2.heap.size, 404 + k, none⟩ = some (.int .i64 (baseN m.len k : Int)) := by have := (HNk.out.at_.st k (by have := Hk.out; omega)).1; dsimp only at this; rw [HNk.out.st k (Nat.le_refl _)] at this; exact this
      have Hd : Hid (∀ j, j < m.len k → Wr wr w2.heap.size (17 + (baseN m.len k + j)) (.int .i64 (W (baseN m.len k + j)))) := fun j hj => HNk.out.at_.wd _ (by have := Hb.out; simp only [baseN] at this; omega)
      obtain ⟨t1, f1'⟩ := HNk.out.at_.st (k + 1) (by have := Hk.out; omega)
      dsimp only at t1
      have Hstep : Hid (∀ v, v = (baseN m.len (k + 1) : Int) → ∃ W' S', Nw w (((wr.drew).setCells w2.heap.size (17 + baseN m.len k) (intsN (m.wd k) (m.len k))).setCell ⟨w2.heap.size, 404 + (k + 1), none⟩ (.int .i64 v)) (.slice l.ra p.rl l.rc) (.slice l.ca p.cl l.cc) w2.heap.size m fuel z (k + 1) W' S') := fun v hv => HNk.out.step (by have := Hk.out; omega) Hb.out.1 v hv
      have Hsrc : Hid (∀ j v, (intsN (m.wd k) (m.len k))[j]? = some v → wr.drew.cell? ((⟨gb k, go k, none⟩ : Addr).add j) = some v) := by
        intro j u hu
        have hj : j < m.len k := by have := (List.getElem?_eq_some_iff.1 hu).1; rw [intsN_length] at this; exact this
        rw [intsN_at _ _ j hj] at hu
        rw [Go.WideShapes.add_plain, ← Option.some.inj hu]
        exact HNk.out.more.drew.cell (H.out.2.1.words k Hk.out.1 j hj)
      obtain ⟨lo, hlo⟩ : ∃ lo, baseN m.len k = lo := ⟨_, rfl⟩
      obtain ⟨r, hr⟩ : ∃ r, m.len k = r := ⟨_, rfl⟩
      have hhi : baseN m.len (k + 1) = lo + r := by simp only [baseN, hlo, hr]
      rw [hhi, hr] at Hb
      rw [hhi, hlo, hr] at Hstep
      rw [hr] at Hsrc q1
      rw [hlo] at t0
      rw [hlo, hr] at Hd
      have Hcl : Hid (∀ j v, j < r → wr.drew.cell? ⟨w2.heap.size, 404 + k, none⟩ = some v → True) := fun _ _ _ _ => trivial
      clear hlo hr hhi
      have b1 : (lo : Int) ≤ 384 := by have := Hb.out; omega
      have b3 : (0 : Int) ≤ (lo : Int) := by omega
      have b6 : ¬ 384 = lo := by have := Hb.out; omega
      have hk7 : (k : Int) < 7 := by have := Hk.out; omega
      have hk17 : (k : Int) + 1 < 7 := by have := Hk.out; omega
      have hk10 : (0 : Int) ≤ (k : Int) + 1 := by omega
      have hkw : wrap64 ((k : Int) + 1) = (k : Int) + 1 := by unfold wrap64; have := Hk.out; omega
      have hlr : wrap64 ((lo : Int) + (r : Int)) = (lo : Int) + (r : Int) := by unfold wrap64; have := Hb.out; omega
      have ht : ((k : Int) + 1).toNat = k + 1 := by omega
      have hwr := wrapEq
      obtain ⟨y1, hy1⟩ : ∃ y, S (k + 1) = y := ⟨_, rfl⟩
      rw [hy1] at t1
      clear hy1
      have a404 : (wr.drew.setCells w2.heap.size (17 + lo) (intsN (m.wd k) r)).cell? ⟨w2.heap.size, 404 + k, none⟩ = some (.int .i64 (lo : Int)) := by
        rw [World.cell?_setCells_out _ _ _ _ _ (fun _ _ => .inr (by rw [intsN_length]; have := Hb.out; dsimp only; omega))]; exact t0
      have a405 : (wr.drew.setCells w2.heap.size (17 + lo) (intsN (m.wd k) r)).cell? ⟨w2.heap.size, 404 + (k + 1), none⟩ = some (.int .i64 y1) := by
        rw [World.cell?_setCells_out _ _ _ _ _ (fun _ _ => .inr (by rw [intsN_length]; have := Hb.out; dsimp only; omega))]; exact t1
      have g405 : (wr.drew.setCells w2.heap.size (17 + lo) (intsN (m.wd k) r)).frozen? ⟨w2.heap.size, 404 + (k + 1), none⟩ = false := by
        rw [World.frozen?_setCells]; exact f1'
      obtain ⟨SS, HS⟩ : ∃ S : World → Prop, Hid (∀ w', S w' ↔ w'.cell? ⟨w2.heap.size, 404 + k, none⟩ = some (.int .i64 (lo : Int))) := ⟨_, fun _ => Iff.rfl⟩
      have kl : ∀ i : { w' // SS w' }, i.val.cell? ⟨w2.heap.size, 404 + k, none⟩ = some (.int .i64 (lo : Int)) := fun i => (HS.out _).1 i.property
      have hne : Nonempty { w' // SS w' } := ⟨⟨wr, (HS.out _).2 t0⟩⟩
      go_wp2_with (fail)
      refine wp_region_ord (S := SS) [(0, true), (1, true), (2, true), (3, true), (4, true), (5, true), (6, true), (7, true), (8, true), (9, true), (10, true), (11, true), (12, true), (13, true), (16, true), (14, false), (15, true), (17, true), (18, false)] (by kernel_rfl) (by kernel_rfl) (by kernel_rfl) ?_ ?_
      · exact (HS.out _).2 t0
      iterate 15 (refine wpOrd_take rfl (by kernel_rfl) (fun K hK => ?_); go_simp; refine hK _ _ ?_; clear hK K)
      refine wpOrd_busy rfl (by kernel_rfl) (fun K hK => ?_)
      refine wp_copy_cells (.tmp 50) (.tmp 51) 67 67 rfl 2 Try.underlying67 info2s w2.heap.size (17 + lo) (384 - lo) (384 - lo) ⟨gb k, go k, none⟩ r (C0 k) rfl rfl (intsN (m.wd k) r) (by rw [intsN_length]; have := Hb.out; simp only [Nat.min_def]; split <;> omega) Hsrc.out (fun j hj => ?_) (fun j hj => ?_) (fun v hv => ?_) ?_
      · rw [intsN_length] at hj; rw [Nat.add_assoc]; rw [(Hd.out j hj).kept (grown_drew wr none) (by simp) |>.1]; rfl
      · rw [intsN_length] at hj; rw [Nat.add_assoc]; exact ((Hd.out j hj).kept (grown_drew wr none) (by simp)).2
      · simp [intsN] at hv; obtain ⟨j, _, rfl⟩ := hv; rfl
      rw [intsN_length]
      go_simp
      refine hK _ _ ((HS.out _).2 a404) ?_; clear hK K
      iterate 2 (refine wpOrd_take rfl (by kernel_rfl) (fun K hK => ?_); go_simp; refine hK _ _ ?_; clear hK K)
      refine wpOrd_busy rfl (by kernel_rfl) (fun K hK => ?_); go_simp
      refine hK _ _ ((HS.out _).2 (by go_simp)) ?_; clear hK K
      refine wpOrd_done ?_
      clear kl hne
      go_wp2
      go_roundg q
      case measure => omega
      case rel =>
        obtain ⟨W', S', hst⟩ := Hstep.out ((lo : Int) + (r : Int)) (by push_cast; rfl)
        exact ⟨k + 1, W', S', by omega, by first | rfl | (push_cast; rfl), hst⟩
end Go.Proofs.Ytbfhchhggkpbdaa

/-
  What slices.Clone comes to, of words that lie somewhere; and the machine's Told.
-/
namespace Go.Proofs.Ytbfhchhggkpbdaa
open Go.RowKit
set_option linter.unusedVariables false
set_option linter.unusedSimpArgs false
set_option maxRecDepth 8000

def intsL (f : Nat → Int) (n : Nat) : List Value := (List.range n).map fun j => .int .i64 (f j)
theorem intsL_length (f : Nat → Int) (n : Nat) : (intsL f n).length = n := by simp [intsL]
theorem intsL_at (f : Nat → Int) (n j : Nat) (h : j < n) : (intsL f n)[j]? = some (.int .i64 (f j)) := by simp [intsL, h]

set_option maxHeartbeats 400000 in
theorem seq_clone (w : World) (b o n c : Nat) (f : Nat → Int) (n0 : 0 < n) (n1 : n ≤ 64) (hc : ∀ j, j < n → w.cell? ⟨b, o + j, none⟩ = some (.int .i64 (f j))) :
    Calls Try.prog 76 #[.slice (some ⟨b, o, none⟩) n c] w fun e w' => ∃ g cap : Nat, e = .returned (.slice (some ⟨g, 0, none⟩) n cap) ∧ w'.ownsRow w.heap.size 2 1 (.slice (some ⟨g, 0, none⟩) n cap) n (intsL f n) ∧ More w w' := by
  obtain ⟨i0, hi, hz0, hz1, hz2⟩ := info_parts info2
  have Hi : Hid (Try.prog.info? 2 = some i0 ∧ i0.zero = some (.int .i64 0) ∧ i0.size = 1 ∧ i0.bytes = 8) := ⟨hi, hz0, hz1, hz2⟩
  have Hn : Hid (0 < n ∧ n ≤ 64) := ⟨n0, n1⟩
  have Hown1 : Hid ((w.alloc (.cells #[] 2)).ownsRow w.heap.size 2 1 (.slice (some ⟨w.heap.size, 0, none⟩) 0 0) 0 []) := World.ownsRow_made _ #[] 0 (Nat.le_refl _) (by unfold maxLen; omega) rfl
  have Hnews : Hid (∀ j u, (intsL f n)[j]? = some u → (w.alloc (.cells #[] 2)).cell? ((⟨b, o, none⟩ : Addr).add j) = some u) := by
    intro j u hu
    have hj : j < n := by have := (List.getElem?_eq_some_iff.1 hu).1; rw [intsL_length] at this; exact this
    rw [intsL_at f n j hj] at hu
    rw [Go.WideShapes.add_plain, ← Option.some.inj hu]
    exact ((More.refl _).alloc _ _).cell (hc j hj)
  have Hone : Hid (∀ v ∈ intsL f n, v.oneCell' = true) := by intro v hv; simp [intsL] at hv; obtain ⟨j, _, rfl⟩ := hv; rfl
  clear hi hz0 hz1 hz2 n0 n1 hc
  have q60 : ∀ (w : World) (a : Option Addr) (n c n' c' : Nat), (binOp .eql 67 (.slice a n c) (.slice none n' c')).run Try.prog w = .ok (.bool a.isNone) w := fun w a n c n' c' => Lib.run_eql_slice_nil w _ _ a n c n' c' Try.underlying67
  go_enter Try.func76, Try.ntmps76
  go_wp2_with (at_builtin; refine wpList_append_lies _ rfl (.tmp 5) (.tmp 6) 67 rfl w.heap.size 2 i0 (.int .i64 0) 1 8 Try.underlying67 Hi.out.1 Hi.out.2.1 Hi.out.2.2.1 Hi.out.2.2.2 rfl (by decide) (.slice (some ⟨w.heap.size, 0, none⟩) 0 0) 0 [] rfl Hown1.out ⟨b, o, none⟩ n c (intsL f n) rfl (by rw [intsL_length, Nat.mul_one]) Hnews.out Hone.out Hn.out.1 (by have := Hn.out.2; unfold maxLen; omega) (by have := Hn.out.2; omega) (by simp) (w.heap.size + 1) (by simp) ?_; intro g cap w2 own2 gr2 hat2 hlt2)
  go_ret
  refine ⟨g, cap, by simp, by simpa using own2, ((More.refl _).alloc _ _).grownBy gr2 (fun k hk => ?_)⟩
  have : w.heap.size = k := by simpa [Value.ownBlock] using hk
  omega

theorem info60 : (Try.prog.info? 67).map (fun i => (i.zero, i.size, i.bytes)) = some (some (.slice none 0 0), 1, 24) := by kernel_rfl
theorem madeNil_at (n j : Nat) (h : j < n) : (madeCells #[.slice none 0 0] n)[j]? = some (.slice none 0 0) := by
  unfold madeCells
  simp [h, Nat.mod_one]

/-- Where Told stands: so many regions are laid. -/
structure Tld (w wr : World) (M : Nat) (rv cv : Value) (x : Ms) (gm rl k : Nat) (base G C : Nat → Nat) : Prop where
  at_ : MAt wr M rv cv { x with mv := .slice (some ⟨gm, 0, none⟩) rl rl }
  grew : w.grownBy wr (some M)
  lo : w.heap.size < gm
  hi : gm < wr.heap.size
  cells : ∀ j, j < rl → ∃ v, Wr wr gm j v
  done : ∀ j, j < k → Wr wr gm j (.slice (some ⟨G j, 0, none⟩) (base (j + 1) - base j) (C j))
  words : ∀ j, j < k → ∀ i, i < base (j + 1) - base j → wr.cell? ⟨G j, i, none⟩ = some (.int .i64 (x.wd (base j + i)))
  apart : ∀ j, j < k → gm < G j ∧ G j < wr.heap.size
  r0 : Wr wr w.heap.size 0 (.int .i64 0)
  r1 : Wr wr w.heap.size 1 (.int .i64 0)
  r2 : Wr wr w.heap.size 2 (.int .i64 0)
  r3 : Wr wr w.heap.size 3 (.slice none 0 0)
  r4 : Wr wr w.heap.size 4 (.slice none 0 0)

theorem Tld.start {w : World} {M : Nat} {rv cv : Value} {x : Ms} (hm : MAt w M rv cv x) (rl : Nat) (base G C : Nat → Nat) :
    Tld w (((w.setCell ⟨M, 6, none⟩ (.slice (some ⟨w.heap.size + 1, 0, none⟩) rl rl)).alloc (.cells #[.int .i64 0, .int .i64 0, .int .i64 0, .slice none 0 0, .slice none 0 0] 37)).alloc (.cells (madeCells #[.slice none 0 0] rl) 67)) M rv cv x (w.heap.size + 1) rl 0 base G C := by
  have hlt := hm.lt
  refine ⟨((hm.setMv _).alloc _).alloc _, gr_alloc (gr_alloc (grown_set _ _ _ _) _) _, by omega, by simp, fun j hj => ⟨.slice none 0 0, ?_⟩, fun j hj => by omega, fun j hj => by omega, fun j hj => by omega, ⟨by go_simp, by go_simp⟩, ⟨by go_simp, by go_simp⟩, ⟨by go_simp, by go_simp⟩, ⟨by go_simp, by go_simp⟩, ⟨by go_simp, by go_simp⟩⟩
  have hj2 := madeNil_at rl j hj
  exact ⟨by go_simp, by go_simp⟩

theorem Tld.step {w wr w5 : World} {M : Nat} {rv cv : Value} {x : Ms} {gm rl k : Nat} {base G C : Nat → Nat} (h : Tld w wr M rv cv x gm rl k base G C) (hM : M < w.heap.size) (hk : k < rl) (m : More wr w5) (g cap : Nat)
    (own : w5.ownsRow wr.heap.size 2 1 (.slice (some ⟨g, 0, none⟩) (base (k + 1) - base k) cap) (base (k + 1) - base k) (intsL (fun i => x.wd (base k + i)) (base (k + 1) - base k))) :
    Tld w (w5.setCell ⟨gm, k, none⟩ (.slice (some ⟨g, 0, none⟩) (base (k + 1) - base k) cap)) M rv cv x gm rl (k + 1) base (fun j => if j = k then g else G j) (fun j => if j = k then cap else C j) := by
  have hg := own.lt g rfl
  have hlo := h.lo
  have hhi := h.hi
  have hgs := grown_set w5 gm k (.slice (some ⟨g, 0, none⟩) (base (k + 1) - base k) cap)
  have hb : w.grownBy w5 (some M) := grown_trans h.grew (m.grow _)
  have hsz : w5.heap.size ≤ (w5.setCell ⟨gm, k, none⟩ (.slice (some ⟨g, 0, none⟩) (base (k + 1) - base k) cap)).heap.size := hgs.size
  have hres : ∀ j v, Wr wr w.heap.size j v → Wr (w5.setCell ⟨gm, k, none⟩ (.slice (some ⟨g, 0, none⟩) (base (k + 1) - base k) cap)) w.heap.size j v := fun j v hw => (hw.kept (m.grow none) (by simp)).other _ _ _ (by omega)
  refine ⟨(h.at_.more m).kept hgs (by simp; omega), ⟨hb.os, hb.tape, hb.output, Nat.le_trans hb.size hgs.size, fun i hi hne => ?_⟩, h.lo, by have := m.size; omega, fun j hj => ?_, fun j hj => ?_, fun j hj i hi => ?_, fun j hj => ?_, hres _ _ h.r0, hres _ _ h.r1, hres _ _ h.r2, hres _ _ h.r3, hres _ _ h.r4⟩
  · rw [hgs.block i (by have := hb.size; omega) (by simp; omega)]
    exact hb.block i hi hne
  · obtain ⟨v, hv⟩ := h.cells j hj
    have hv5 := hv.kept (m.grow none) (by simp)
    by_cases e : j = k
    · subst e; exact ⟨_, hv5.same _⟩
    · exact ⟨v, hv5.other _ _ _ (by omega)⟩
  · by_cases e : j = k
    · subst e
      obtain ⟨v, hv⟩ := h.cells j hk
      simp only [if_true]
      exact (hv.kept (m.grow none) (by simp)).same _
    · simp only [e, if_false]
      exact ((h.done j (by omega)).kept (m.grow none) (by simp)).other _ _ _ (by omega)
  · by_cases e : j = k
    · subst e
      simp only [if_true]
      rw [hgs.cell (v := .int .i64 (x.wd (base j + i))) ?_ (by simp; omega)]
      rw [World.ownsRow.cellAt own i (by omega)]
      exact intsL_at _ _ i hi
    · simp only [e, if_false]
      have := h.apart j (by omega)
      exact hgs.cell (m.cell (h.words j (by omega) i hi)) (by simp; omega)
  · have := m.size
    by_cases e : j = k
    · simp only [e, if_true]; omega
    · simp only [e, if_false]
      have := h.apart j (by omega)
      omega

theorem Tld.mem {w wr : World} {M : Nat} {rv cv : Value} {x : Ms} {gm rl : Nat} {base G C : Nat → Nat} (h : Tld w wr M rv cv x gm rl rl base G C) (hrl : rl ≤ 6) (hb : ∀ j, j < rl → base (j + 1) - base j ≤ 64) {w' : World} (hg : ∀ b o v, gm ≤ b → wr.cell? ⟨b, o, none⟩ = some v → w'.cell? ⟨b, o, none⟩ = some v) :
    MIn w' ⟨rl, fun j => base (j + 1) - base j, fun j i => x.wd (base j + i)⟩ ⟨some ⟨gm, 0, none⟩, gm, 0, rl, fun j => some ⟨G j, 0, none⟩, C, G, fun _ => 0⟩ := by
  have hlo := h.lo
  refine ⟨fun _ => rfl, fun j hj => ?_, fun j hj _ => rfl, fun j hj i hi => ?_, by dsimp only; omega, fun j hj => by have := hb j hj; dsimp only; omega⟩
  · dsimp only
    rw [Nat.zero_add]
    exact hg _ _ _ (Nat.le_refl _) (h.done j hj).1
  · dsimp only
    rw [Nat.zero_add]
    have := h.apart j hj
    exact hg _ _ _ (by omega) (h.words j hj i hi)

theorem SeenOwn.elsewhere {w w' : World} {base : Nat} {v : Value} {l : List Se} (h : SeenOwn w base v l) (hb : l.length < 4611686018427387904) (hk : ∀ b, v.ownBlock = some b → w'.heap[b]? = w.heap[b]?) : SeenAt w' v l := by
  by_cases h0 : l.length = 0
  · have : l = [] := List.eq_nil_of_length_eq_zero h0
    subst this
    obtain ⟨a, b, o, c, e, h1, h2, h3⟩ := h.at_ hb
    exact ⟨a, b, o, c, e, h1, fun i s h => by simp at h, h3⟩
  · obtain ⟨g, cap, rfl, _, _⟩ := World.ownsRow.form h (by omega)
    have hg : w'.heap[g]? = w.heap[g]? := hk g rfl
    obtain ⟨a, b, o, c, e, h1, h2, h3⟩ := h.at_ hb
    have ha := h1 (by omega)
    rw [ha] at e
    have e2 : g = b := by simp at e; exact e.1.1
    subst e2
    refine ⟨_, g, o, c, e, fun _ => rfl, fun i s hs => ?_, h3⟩
    have := h2 i s hs
    exact ⟨by rw [World.cell?_of_block hg]; exact this.1, by rw [World.cell?_of_block hg]; exact this.2.1, by rw [World.cell?_of_block hg]; exact this.2.2⟩

set_option maxHeartbeats 1000000 in
theorem seq_told_all (w : World) (M : Nat) (ra : Option Addr) (rl rc : Nat) (cv : Value) (x : Ms) (se : List Se) (base : Nat → Nat) (h : Run w M (.slice ra rl rc) cv x se) (hrl : rl ≤ 6) (hst : ∀ j, j ≤ rl → x.st j = (base j : Int)) (hb0 : ∀ j, j < rl → base j < base (j + 1)) (hb : ∀ j, j < rl → base (j + 1) - base j ≤ 64) (hb1 : ∀ j, j ≤ rl → base j ≤ 384) (hl : se.length ≤ 200000) :
    Calls Try.prog 49 #[.pointer (some ⟨M, 0, none⟩)] w fun e w' => ∃ v, e = .returned v ∧ (∀ w'' : World, (∀ b, M < b → b < w'.heap.size → (∀ p ∈ x.mo, p.1 ≠ b) → w''.heap[b]? = w'.heap[b]?) → ShownAt w'' v ⟨x.fin, x.val, x.steps, se, ⟨rl, fun j => base (j + 1) - base j, fun j i => x.wd (base j + i)⟩⟩) ∧ w.grownBy w' (some M) := by
  obtain ⟨sv, hm, ho, hqm⟩ := h.out
  obtain ⟨sa, sc, rfl⟩ := own_form ho
  have hM := hm.lt
  have hn : ¬ M = w.heap.size := by omega
  have hn' : ¬ w.heap.size = M := by omega
  have hn1 : ¬ M = w.heap.size + 1 := by omega
  have hn1' : ¬ w.heap.size + 1 = M := by omega
  have H : Hid (MAt w M (.slice ra rl rc) cv { x with sv := .slice sa se.length sc } ∧ SeenOwn w (M + 1) (.slice sa se.length sc) se ∧ rl ≤ 6 ∧ (∀ j, j ≤ rl → x.st j = (base j : Int)) ∧ (∀ j, j < rl → base j < base (j + 1)) ∧ (∀ j, j < rl → base (j + 1) - base j ≤ 64) ∧ (∀ j, j ≤ rl → base j ≤ 384) ∧ se.length ≤ 200000) := ⟨hm, ho, hrl, hst, hb0, hb, hb1, hl⟩
  have HM : Hid (M < w.heap.size) := hM
  have HQ : Hid (∀ b, (Value.slice sa se.length sc).ownBlock = some b → M < b ∧ b < w.heap.size ∧ ∀ p ∈ x.mo, p.1 ≠ b) := by
    intro b hb
    have h1 := World.ownsRow.lt ho b hb
    exact ⟨by omega, h1.2, fun p hp e => (hqm p hp).2.1 (by rw [e]; exact hb.symm)⟩
  have HQ2 : Hid (∀ p ∈ x.mo, p.1 < w.heap.size) := fun p hp => heap_some_lt (hqm p hp).2.2
  have c0 := hm.p0.1
  obtain ⟨c6, f6⟩ := hm.mv
  have Hst := Tld.start hm rl base (fun _ => 0) (fun _ => 0)
  have HT : Hid (Tld w (((w.setCell ⟨M, 6, none⟩ (.slice (some ⟨w.heap.size + 1, 0, none⟩) rl rl)).alloc (.cells #[.int .i64 0, .int .i64 0, .int .i64 0, .slice none 0 0, .slice none 0 0] 37)).alloc (.cells (madeCells #[.slice none 0 0] rl) 67)) M (.slice ra rl rc) cv { x with sv := .slice sa se.length sc } (w.heap.size + 1) rl 0 base (fun _ => 0) (fun _ => 0)) := Hst
  have hmk := run_make_row' (P := Try.prog) 30 67 (.slice none 0 0) 24 Try.underlying30 info60 rfl .i64 .i64 rl (by omega) (by omega)
  clear h hm ho hrl hst hb0 hb hb1 hl Hst hqm
  go_enter Try.func49, Try.ntmps49
  go_wp2
  go_loopg [21] rl (fun q i wr => ∃ (k : Nat) (G C : Nat → Nat), k + q = rl ∧ i = .int .i64 k ∧ Tld w wr M (.slice ra rl rc) cv { x with sv := .slice sa se.length sc } (w.heap.size + 1) rl k base G C)
  case atStart => exact ⟨0, _, _, by omega, rfl, HT.out⟩
  case round =>
    obtain ⟨k, G, C, hkq, rfl, hT⟩ := hrel
    have HTk : Hid (Tld w wr M (.slice ra rl rc) cv { x with sv := .slice sa se.length sc } (w.heap.size + 1) rl k base G C) := hT
    have d6 := hT.at_.mv.1
    dsimp only at d6
    clear hT HT hmk c0 c6 f6
    cases gk with
    | zero =>
      obtain rfl : k = rl := by omega
      have d2 := HTk.out.at_.fin.1
      have d3 := HTk.out.at_.val.1
      have d4 := HTk.out.at_.steps.1
      have d5 := HTk.out.at_.sv.1
      dsimp only at d2 d3 d4 d5
      obtain ⟨z0, g0⟩ := HTk.out.r0
      obtain ⟨z1, g1⟩ := HTk.out.r1
      obtain ⟨z2, g2⟩ := HTk.out.r2
      obtain ⟨z3, g3⟩ := HTk.out.r3
      obtain ⟨z4, g4⟩ := HTk.out.r4
      go_wp2
      refine bodyPost_ret (v := .agg #[.int .i64 x.fin, .int .i64 x.val, .int .i64 x.steps, .slice sa se.length sc, .slice (some ⟨w.heap.size + 1, 0, none⟩) k k]) (by simp [results, Try.results49, go_sem, *]) rfl ⟨_, rfl, ?_⟩
      have hg : wr.grownBy (((((wr.setCell ⟨w.heap.size, 0, none⟩ (.int .i64 x.fin)).setCell ⟨w.heap.size, 1, none⟩ (.int .i64 x.val)).setCell ⟨w.heap.size, 2, none⟩ (.int .i64 x.steps)).setCell ⟨w.heap.size, 3, none⟩ (.slice sa se.length sc)).setCell ⟨w.heap.size, 4, none⟩ (.slice (some ⟨w.heap.size + 1, 0, none⟩) k k)) (some w.heap.size) := gr_set (gr_set (gr_set (gr_set (gr_set (grown_refl _ _) _ _) _ _) _ _) _ _) _ _
      have hw : w.grownBy (((((wr.setCell ⟨w.heap.size, 0, none⟩ (.int .i64 x.fin)).setCell ⟨w.heap.size, 1, none⟩ (.int .i64 x.val)).setCell ⟨w.heap.size, 2, none⟩ (.int .i64 x.steps)).setCell ⟨w.heap.size, 3, none⟩ (.slice sa se.length sc)).setCell ⟨w.heap.size, 4, none⟩ (.slice (some ⟨w.heap.size + 1, 0, none⟩) k k)) (some M) :=
        ⟨hg.os.trans HTk.out.grew.os, hg.tape.trans HTk.out.grew.tape, hg.output.trans HTk.out.grew.output, Nat.le_trans HTk.out.grew.size hg.size, fun i hi hne => by rw [hg.block i (by have := HTk.out.grew.size; omega) (by simp; omega)]; exact HTk.out.grew.block i hi hne⟩
      refine ⟨fun w2 hg2 => ⟨.slice sa se.length sc, ⟨some ⟨w.heap.size + 1, 0, none⟩, w.heap.size + 1, 0, k, fun j => some ⟨G j, 0, none⟩, C, G, fun _ => 0⟩, rfl, SeenOwn.elsewhere (H.out.2.1.kept hw (fun b hb => by have := Option.some.inj hb; omega)) (by have := H.out.2.2.2.2.2.2.2; dsimp only; omega) (fun b hb => hg2 b (HQ.out b hb).1 (by have := hw.size; have := (HQ.out b hb).2.1; omega) (HQ.out b hb).2.2), HTk.out.mem H.out.2.2.1 H.out.2.2.2.2.2.1 (fun b o v hb hc => ?_)⟩, ?_⟩
      · have h1 := hg.cell hc (by simp; omega)
        have hlt := cell_block h1
        dsimp only at hlt
        rw [World.cell?_of_block (hg2 b (by have := HM.out; omega) hlt (fun p hp e => by have := HQ2.out p hp; omega))]
        exact h1
      exact hw
    | succ q =>
      have hk : k < rl := by omega
      have hk' : (k : Int) < (rl : Int) := by omega
      have hk0 : (0 : Int) ≤ (k : Int) := by omega
      have Hk : Hid (k < rl ∧ rl ≤ 6 ∧ base k < base (k + 1) ∧ base (k + 1) - base k ≤ 64 ∧ base (k + 1) ≤ 384) := ⟨hk, H.out.2.2.1, H.out.2.2.2.2.1 k hk, H.out.2.2.2.2.2.1 k hk, H.out.2.2.2.2.2.2.1 (k + 1) (by omega)⟩
      have t0 : wr.cell? ⟨M, 404 + k, none⟩ = some (.int .i64 (base k : Int)) := by have := (HTk.out.at_.st k (by have := Hk.out; omega)).1; dsimp only at this; rw [H.out.2.2.2.1 k (by omega)] at this; exact this
      have t1 : wr.cell? ⟨M, 404 + (k + 1), none⟩ = some (.int .i64 (base (k + 1) : Int)) := by have := (HTk.out.at_.st (k + 1) (by have := Hk.out; omega)).1; dsimp only at this; rw [H.out.2.2.2.1 (k + 1) (by omega)] at this; exact this
      obtain ⟨lo, hlo⟩ : ∃ lo, base k = lo := ⟨_, rfl⟩
      obtain ⟨hi, hhi⟩ : ∃ hi, base (k + 1) = hi := ⟨_, rfl⟩
      rw [hlo] at t0
      rw [hhi] at t1
      have Hlo : Hid (base k = lo ∧ base (k + 1) = hi) := ⟨hlo, hhi⟩
      have b1 : (lo : Int) ≤ (hi : Int) := by have := Hk.out; omega
      have b2 : (hi : Int) ≤ 384 := by have := Hk.out; omega
      have b3 : (0 : Int) ≤ (lo : Int) := by omega
      have b4 : (0 : Int) ≤ (hi : Int) := by omega
      have b5 : (lo : Int) ≤ 384 := by omega
      have b6 : ¬ 384 = lo := by have := Hk.out; omega
      have hk7 : (k : Int) < 7 := by have := Hk.out; omega
      have hk17 : (k : Int) + 1 < 7 := by have := Hk.out; omega
      have hk10 : (0 : Int) ≤ (k : Int) + 1 := by omega
      have hkw : wrap64 ((k : Int) + 1) = (k : Int) + 1 := by unfold wrap64; have := Hk.out; omega
      have ht : ((k : Int) + 1).toNat = k + 1 := by omega
      obtain ⟨v0, hv0⟩ := HTk.out.cells k hk
      obtain ⟨y0, f0⟩ := hv0
      have hwr := wrapEq
      obtain ⟨S, HS⟩ : ∃ S : World → Prop, Hid (∀ w', S w' ↔ w'.cell? ⟨M, 6, none⟩ = some (.slice (some ⟨w.heap.size + 1, 0, none⟩) rl rl) ∧ w'.cell? ⟨M, 404 + k, none⟩ = some (.int .i64 (lo : Int)) ∧ w'.cell? ⟨M, 404 + (k + 1), none⟩ = some (.int .i64 (hi : Int))) := ⟨_, fun _ => Iff.rfl⟩
      have k6 : ∀ i : { w' // S w' }, i.val.cell? ⟨M, 6, none⟩ = some (.slice (some ⟨w.heap.size + 1, 0, none⟩) rl rl) := fun i => ((HS.out _).1 i.property).1
      have kl : ∀ i : { w' // S w' }, i.val.cell? ⟨M, 404 + k, none⟩ = some (.int .i64 (lo : Int)) := fun i => ((HS.out _).1 i.property).2.1
      have kh : ∀ i : { w' // S w' }, i.val.cell? ⟨M, 404 + (k + 1), none⟩ = some (.int .i64 (hi : Int)) := fun i => ((HS.out _).1 i.property).2.2
      have hne : Nonempty { w' // S w' } := ⟨⟨wr, (HS.out _).2 ⟨d6, t0, t1⟩⟩⟩
      go_wp2_with (fail)
      refine wp_region_ord (S := S) [(0, true), (1, true), (2, true), (3, true), (4, true), (5, true), (6, true), (7, true), (8, true), (9, true), (10, true), (11, true), (12, true), (13, true), (14, true), (15, true), (16, true), (17, true), (18, true), (19, true), (20, true), (21, true), (22, true), (23, true), (24, false), (25, true), (26, false)] (by kernel_rfl) (by kernel_rfl) (by kernel_rfl) ?_ ?_
      · exact (HS.out _).2 ⟨d6, t0, t1⟩
      iterate 23 (refine wpOrd_take rfl (by kernel_rfl) (fun K hK => ?_); go_simp; refine hK _ _ ?_; clear hK K)
      refine wpOrd_take rfl (by kernel_rfl) (fun K hK => ?_); go_simp; refine hK _ _ ?_; clear hK K
      refine wpOrd_busy rfl (by kernel_rfl) (fun K hK => ?_); go_simp
      refine (seq_clone _ M (17 + lo) (hi - lo) _ (fun i => x.wd (lo + i)) (by have := Hk.out; have := Hlo.out; omega) (by have := Hk.out; have := Hlo.out; omega) (fun j hj => ?_)).mono ?_
      · have := (HTk.out.at_.drew.wd (lo + j) (by have := Hk.out; have := Hlo.out; omega)).1
        rw [Nat.add_assoc]
        exact this
      rintro e w5 ⟨g, cap, rfl, own5, m5⟩
      have H5 : Hid (w5.ownsRow wr.heap.size 2 1 (.slice (some ⟨g, 0, none⟩) (hi - lo) cap) (hi - lo) (intsL (fun i => x.wd (lo + i)) (hi - lo)) ∧ More wr w5) := ⟨own5, (More.refl _).drew.trans m5⟩
      have y5 := H5.out.2.cell y0
      have f5 := (Wr.kept (H5.out.2.grow none) (⟨y0, f0⟩ : Wr wr (w.heap.size + 1) k v0) (by simp)).2
      have e6 := H5.out.2.cell d6
      have e0 := H5.out.2.cell t0
      have e1 := H5.out.2.cell t1
      clear own5 m5
      go_simp
      refine hK _ _ ((HS.out _).2 ⟨e6, e0, e1⟩) ?_; clear hK K
      refine wpOrd_take rfl (by kernel_rfl) (fun K hK => ?_); go_simp; refine hK _ _ ?_; clear hK K
      refine wpOrd_busy rfl (by kernel_rfl) (fun K hK => ?_); go_simp
      refine hK _ _ ((HS.out _).2 (by go_simp)) ?_; clear hK K
      refine wpOrd_done ?_
      clear k6 kl kh hne
      go_wp2
      go_roundg q
      case measure => omega
      case rel =>
        have hst := HTk.out.step HM.out Hk.out.1 H5.out.2 g cap (by rw [Hlo.out.1, Hlo.out.2]; exact H5.out.1)
        rw [Hlo.out.1, Hlo.out.2] at hst
        exact ⟨k + 1, _, _, by omega, by first | rfl | (push_cast; rfl), hst⟩

theorem seq_told (w : World) (M : Nat) (ra : Option Addr) (rl rc : Nat) (cv : Value) (x : Ms) (se : List Se) (base : Nat → Nat) (h : Run w M (.slice ra rl rc) cv x se) (hrl : rl ≤ 6) (hst : ∀ j, j ≤ rl → x.st j = (base j : Int)) (hb0 : ∀ j, j < rl → base j < base (j + 1)) (hb : ∀ j, j < rl → base (j + 1) - base j ≤ 64) (hb1 : ∀ j, j ≤ rl → base j ≤ 384) (hl : se.length ≤ 200000) :
    Calls Try.prog 49 #[.pointer (some ⟨M, 0, none⟩)] w fun e w' => ∃ v, e = .returned v ∧ (∀ (B : Nat) (w'' : World), B < M → w'.grownBy w'' (some B) → ShownAt w'' v ⟨x.fin, x.val, x.steps, se, ⟨rl, fun j => base (j + 1) - base j, fun j i => x.wd (base j + i)⟩⟩) ∧ Below M w w' := by
  have hM := h.lt
  refine (seq_told_all w M ra rl rc cv x se base h hrl hst hb0 hb hb1 hl).mono ?_
  rintro e w' ⟨v, rfl, h1, h2⟩
  exact ⟨v, rfl, fun B w'' hB hg => h1 w'' (fun b hb hlt _ => hg.block b hlt (by simp; omega)), Below.grown (Below.refl _ _) h2 (Nat.le_of_lt hM) (fun b hb => by have := Option.some.inj hb; omega)⟩
end Go.Proofs.Ytbfhchhggkpbdaa

/-
  What package seq's Run comes to: the run that chapter 3 says, or what is wrong.
-/
namespace Go.Proofs.Ytbfhchhggkpbdaa
open Go.RowKit
set_option linter.unusedVariables false
set_option linter.unusedSimpArgs false
set_option maxRecDepth 8000

theorem hid_of {P : Prop} (h : P) : Hid P := h

/-- The machine at the end, as what is told. -/
theorem fin_like {m : Mem} {R : Sh} {x : Ms} {se : List Se} (h : Fin_ m R x se) : Mem.Like ⟨m.ml, fun j => baseN m.len (j + 1) - baseN m.len j, fun j i => x.wd (baseN m.len j + i)⟩ R.mem := by
  have hl : ∀ j, baseN m.len (j + 1) - baseN m.len j = m.len j := fun j => by simp only [baseN]; omega
  refine ⟨h.ml.symm, fun i hi => ?_, fun i hi j hj => ?_⟩
  · dsimp only; rw [hl, h.len]
  · dsimp only at hj ⊢
    rw [hl] at hj
    exact h.w.wd i hi j hj

set_option maxHeartbeats 1000000 in
theorem seq_run_wrong (p : Prg) (l : Loc) (ma : Option Addr) (ml mc : Nat) (fuel code : Int) (w : World) (hc : ¬ code = 0)
    (hnew : ∀ w1, More w w1 → Calls Try.prog 45 #[.agg #[.slice l.ra p.rl l.rc, .slice l.ca p.cl l.cc], .slice ma ml mc, .int .i64 fuel] w1 fun e w' => ∃ z, MC z (.slice none 0 0) (.slice none 0 0) (ms0 0) ∧ e = .returned (.tuple #[.agg z, .int .i64 code]) ∧ More w1 w') :
    Calls Try.prog 23 #[.agg #[.slice l.ra p.rl l.rc, .slice l.ca p.cl l.cc], .slice ma ml mc, .int .i64 fuel] w fun e w' => e = .returned (.tuple #[.agg #[.int .i64 0, .int .i64 0, .int .i64 0, .slice none 0 0, .slice none 0 0], .int .i64 code]) ∧ More w w' := by
  obtain ⟨z, z1, z2, z3, z4⟩ := zrow
  have HN : Hid (∀ w1, More w w1 → Calls Try.prog 45 #[.agg #[.slice l.ra p.rl l.rc, .slice l.ca p.cl l.cc], .slice ma ml mc, .int .i64 fuel] w1 fun e w' => ∃ z, MC z (.slice none 0 0) (.slice none 0 0) (ms0 0) ∧ e = .returned (.tuple #[.agg z, .int .i64 code]) ∧ More w1 w') := hnew
  have Hz : Hid (MC z (.slice none 0 0) (.slice none 0 0) (ms0 0) ∧ (Try.prog.info? 77).map (·.size) = some 411 ∧ z.size = 411) := ⟨z3, z4, z3.size rfl⟩
  clear hnew z3 z4
  go_enter Try.func23, Try.ntmps23
  go_wp2_with (fail)
  refine (HN.out _ (((More.refl _).alloc _ _).alloc _ _)).mono ?_
  rintro e w1 ⟨c, mcc, rfl, m1⟩
  have Hc : Hid (MC c (.slice none 0 0) (.slice none 0 0) (ms0 0)) := mcc
  have s1 : w.heap.size + 2 ≤ w1.heap.size := by have := m1.size; have := size_alloc2 w (.cells #[.slice l.ra p.rl l.rc, .slice l.ca p.cl l.cc] 29) (.cells #[.int .i64 0, .int .i64 0, .int .i64 0, .slice none 0 0, .slice none 0 0] 37); omega
  have Hm1 : Hid (More w w1) := (((More.refl _).alloc _ _).alloc _ _).trans m1
  obtain ⟨w3, hw3⟩ : ∃ w3, w3 = w1.alloc (.cells c 77) := ⟨_, rfl⟩
  have Hw3 : Hid (w3 = w1.alloc (.cells c 77)) := hw3
  have zz : ∀ j v, Wr ((w.alloc (.cells #[.slice l.ra p.rl l.rc, .slice l.ca p.cl l.cc] 29)).alloc (.cells #[.int .i64 0, .int .i64 0, .int .i64 0, .slice none 0 0, .slice none 0 0] 37)) (w.heap.size + 1) j v → Wr w3 (w.heap.size + 1) j v := fun j v hv => by rw [hw3]; exact (hv.kept (m1.grow none) (by simp)).kept (World.grownBy_alloc w1 _ none) (by simp)
  obtain ⟨y0, g0⟩ := zz 0 (.int .i64 0) ⟨by go_simp, by go_simp⟩
  obtain ⟨y1, g1⟩ := zz 1 (.int .i64 0) ⟨by go_simp, by go_simp⟩
  obtain ⟨y2, g2⟩ := zz 2 (.int .i64 0) ⟨by go_simp, by go_simp⟩
  obtain ⟨y3, g3⟩ := zz 3 (.slice none 0 0) ⟨by go_simp, by go_simp⟩
  obtain ⟨y4, g4⟩ := zz 4 (.slice none 0 0) ⟨by go_simp, by go_simp⟩
  have n1 : ¬ w1.heap.size = w.heap.size + 1 := by omega
  have n2 : ¬ w.heap.size + 1 = w1.heap.size := by omega
  clear m1 mcc zz hw3
  go_wp2_with (refine wpList_store_row rfl 77 (.tmp 8) (.tmp 15) rfl w1.heap.size c rfl rfl 77 z (heap_alloc_last _ _) (by rw [Hc.out.size rfl]; exact Hz.out.2.1) (by rw [Hc.out.size rfl, Hz.out.2.2]) (Hc.out.one rfl rfl rfl rfl rfl) ?_; rw [World.setRow_alloc_new, ← Hw3.out])
  refine bodyPost_ret (v := .tuple #[.agg #[.int .i64 0, .int .i64 0, .int .i64 0, .slice none 0 0, .slice none 0 0], .int .i64 code]) (by simp [results, Try.results23, go_sem, *]) rfl ⟨rfl, ?_⟩
  have hg : w3.grownBy (((((w3.setCell ⟨w.heap.size + 1, 0, none⟩ (.int .i64 0)).setCell ⟨w.heap.size + 1, 1, none⟩ (.int .i64 0)).setCell ⟨w.heap.size + 1, 2, none⟩ (.int .i64 0)).setCell ⟨w.heap.size + 1, 3, none⟩ (.slice none 0 0)).setCell ⟨w.heap.size + 1, 4, none⟩ (.slice none 0 0)) (some (w.heap.size + 1)) := gr_set (gr_set (gr_set (gr_set (gr_set (grown_refl _ _) _ _) _ _) _ _) _ _) _ _
  have h3 : More w w3 := by rw [Hw3.out]; exact Hm1.out.alloc _ _
  exact h3.grownBy hg (fun b hb => by have := Option.some.inj hb; omega)

set_option maxHeartbeats 2000000 in
theorem seq_run_ok (p : Prg) (l : Loc) (m : Mem) (ml : MLoc) (fuel : Nat) (w : World) (hp : PIn w p l) (hm : MIn w m ml) (hok : p.Ok 8000 10) (hn64 : ∀ i, i < p.cl → B64 (p.ins i).n) (hfit : FitsOk p.rl p.log m.ml m.len) (hwd : ∀ j, j < m.ml → ∀ i, i < m.len j → B64 (m.wd j i)) (hfuel : fuel ≤ 40000) :
    Calls Try.prog 23 #[.agg #[.slice l.ra p.rl l.rc, .slice l.ca p.cl l.cc], .slice ml.ma m.ml ml.mc, .int .i64 fuel] w fun e w' => ∃ (v : Value) (mm : Mem), e = .returned (.tuple #[v, .int .i64 0]) ∧ ShownAt w' v ⟨(playI p m fuel).fin, (playI p m fuel).val, (playI p m fuel).steps, (playI p m fuel).seen, mm⟩ ∧ mm.Like (playI p m fuel).mem ∧ More w w' := by
  have hml : m.ml = p.rl := hfit.2.1
  have hlen : ∀ i, i < m.ml → (m.len i : Int) = wordsI (p.log i) := fun i hi => hfit.2.2 i (by omega)
  have hpos : ∀ i, i < m.ml → 0 < m.len i ∧ m.len i ≤ 64 := fun i hi => by
    have h1 := hlen i hi
    have h2 := hok.1.2 i (by omega)
    have h3 := two_pow_le (k := (p.log i).toNat) (by omega)
    unfold wordsI at h1
    omega
  have hm6 : m.ml ≤ 6 := by rw [hml]; exact hok.1.1
  have hcl : 1 ≤ p.cl ∧ p.cl ≤ 8000 := ⟨hok.2.1, hok.2.2.1⟩
  have hinv : Inv p m 0 ⟨0, fun _ => 0, m, []⟩ := ⟨Nat.zero_le _, fun _ _ => B64_zero, rfl, fun _ => rfl, hwd, by simp⟩
  obtain ⟨z, z1, z2, z3, z4⟩ := zrow
  have Hz : Hid (MC z (.slice none 0 0) (.slice none 0 0) (ms0 0) ∧ (Try.prog.info? 77).map (·.size) = some 411 ∧ z.size = 411) := ⟨z3, z4, z3.size rfl⟩
  obtain ⟨ra, rb, ro, rc, ca, cb, co, cc⟩ := l
  obtain rfl : ca = some ⟨cb, co, none⟩ := hp.hc (by omega)
  dsimp only
  have H : Hid (PIn w p ⟨ra, rb, ro, rc, some ⟨cb, co, none⟩, cb, co, cc⟩ ∧ (∀ i, i < p.cl → InsOk p.rl p.log p.cl 10 (p.ins i)) ∧ (∀ i, i < p.cl → B64 (p.ins i).n) ∧ m.ml = p.rl ∧ (∀ i, i < m.ml → (m.len i : Int) = wordsI (p.log i)) ∧ (∀ i, i < m.ml → 0 < m.len i ∧ m.len i ≤ 64) ∧ m.ml ≤ 6 ∧ (1 ≤ p.cl ∧ p.cl ≤ 8000) ∧ fuel ≤ 40000 ∧ Inv p m 0 ⟨0, fun _ => 0, m, []⟩) :=
    ⟨hp, hok.2.2.2, hn64, hml, hlen, hpos, hm6, hcl, hfuel, hinv⟩
  have HN : Hid (∀ w1, More w w1 → Calls Try.prog 45 #[.agg #[.slice ra p.rl rc, .slice (some ⟨cb, co, none⟩) p.cl cc], .slice ml.ma m.ml ml.mc, .int .i64 fuel] w1 fun e w' => ∃ (c : Array Value) (W S : Nat → Int), e = .returned (.tuple #[.agg c, .int .i64 0]) ∧ MC c (.slice ra p.rl rc) (.slice (some ⟨cb, co, none⟩) p.cl cc) { ms0 fuel with wd := W, st := S } ∧
      (∀ j, j ≤ m.ml → S j = (baseN m.len j : Int)) ∧ (∀ j, j < m.ml → ∀ i, i < m.len j → W (baseN m.len j + i) = m.wd j i) ∧ More w1 w') :=
    fun w1 m1 => seq_new p ⟨ra, rb, ro, rc, some ⟨cb, co, none⟩, cb, co, cc⟩ m ml fuel w1 (hp.more m1) (hm.more m1) hok hfit hpos (by omega) (by omega)
  obtain ⟨R, HR⟩ : ∃ R, Hid (playI p m fuel = R) := ⟨_, rfl⟩
  rw [HR.out]
  obtain ⟨P, hP⟩ : ∃ P, P = fun (e : Ending) (w' : World) => ∃ (v : Value) (mm : Mem), e = .returned (.tuple #[v, .int .i64 0]) ∧ ShownAt w' v ⟨R.fin, R.val, R.steps, R.seen, mm⟩ ∧ mm.Like R.mem ∧ More w w' := ⟨_, rfl⟩
  rw [← hP]
  have HP : Hid (P = fun (e : Ending) (w' : World) => ∃ (v : Value) (mm : Mem), e = .returned (.tuple #[v, .int .i64 0]) ∧ ShownAt w' v ⟨R.fin, R.val, R.steps, R.seen, mm⟩ ∧ mm.Like R.mem ∧ More w w') := hP
  obtain ⟨va, hva⟩ : ∃ va, ml.ma = va := ⟨_, rfl⟩
  obtain ⟨vc, hvc⟩ : ∃ vc, ml.mc = vc := ⟨_, rfl⟩
  rw [hva, hvc] at HN ⊢
  clear hp hm hok hn64 hfit hwd hfuel hml hlen hpos hm6 hcl hinv z3 z4 hP hva hvc
  go_enter Try.func23, Try.ntmps23
  go_wp2_with (fail)
  refine (HN.out _ (((More.refl _).alloc _ _).alloc _ _)).mono ?_
  rintro e w1 ⟨c, W, S, rfl, mcc, hS, hW, m1⟩
  obtain ⟨w3, hw3⟩ : ∃ w3, w3 = w1.alloc (.cells c 77) := ⟨_, rfl⟩
  have Hw3 : Hid (w3 = w1.alloc (.cells c 77)) := hw3
  have Hc : Hid (MC c (.slice ra p.rl rc) (.slice (some ⟨cb, co, none⟩) p.cl cc) { ms0 fuel with wd := W, st := S } ∧ (∀ j, j ≤ m.ml → S j = (baseN m.len j : Int)) ∧ (∀ j, j < m.ml → ∀ i, i < m.len j → W (baseN m.len j + i) = m.wd j i)) := ⟨mcc, hS, hW⟩
  have s1 : w.heap.size + 2 ≤ w1.heap.size := by have := m1.size; have := size_alloc2 w (.cells #[.slice ra p.rl rc, .slice (some ⟨cb, co, none⟩) p.cl cc] 29) (.cells #[.int .i64 0, .int .i64 0, .int .i64 0, .slice none 0 0, .slice none 0 0] 37); omega
  have Hm3 : Hid (More w w3) := by rw [show Hid (More w w3) = More w w3 from rfl, hw3]; exact ((((More.refl _).alloc _ _).alloc _ _).trans m1).alloc _ _
  have zz : ∀ j v, Wr ((w.alloc (.cells #[.slice ra p.rl rc, .slice (some ⟨cb, co, none⟩) p.cl cc] 29)).alloc (.cells #[.int .i64 0, .int .i64 0, .int .i64 0, .slice none 0 0, .slice none 0 0] 37)) (w.heap.size + 1) j v → Wr w3 (w.heap.size + 1) j v := fun j v hv => by rw [hw3]; exact (hv.kept (m1.grow none) (by simp)).kept (World.grownBy_alloc w1 _ none) (by simp)
  have HZ : Hid (Wr w3 (w.heap.size + 1) 0 (.int .i64 0) ∧ Wr w3 (w.heap.size + 1) 1 (.int .i64 0) ∧ Wr w3 (w.heap.size + 1) 2 (.int .i64 0) ∧ Wr w3 (w.heap.size + 1) 3 (.slice none 0 0) ∧ Wr w3 (w.heap.size + 1) 4 (.slice none 0 0)) :=
    ⟨zz 0 _ ⟨by go_simp, by go_simp⟩, zz 1 _ ⟨by go_simp, by go_simp⟩, zz 2 _ ⟨by go_simp, by go_simp⟩, zz 3 _ ⟨by go_simp, by go_simp⟩, zz 4 _ ⟨by go_simp, by go_simp⟩⟩
  have HA : Hid ((∃ (x : Ms) (se : List Se), Run w3 w1.heap.size (.slice ra p.rl rc) (.slice (some ⟨cb, co, none⟩) p.cl cc) x se ∧ ((∃ k s, Way p m fuel fuel R x se k s) ∨ (x.ended = true ∧ Fin_ m R x se)))) := by
    refine ⟨{ ms0 fuel with wd := W, st := S }, [], ⟨.slice none 0 0, ⟨c, by rw [hw3]; exact heap_alloc_last _ _, mcc⟩, World.ownsRow_nil _ _ _ _, fun q e => by cases e⟩, .inl ⟨0, ⟨0, fun _ => 0, m, []⟩, by omega, ⟨rfl, ⟨hW, hS⟩, rfl, rfl, rfl, rfl, rfl, rfl⟩, rfl, H.out.2.2.2.2.2.2.2.2.2, HR.out⟩⟩
  clear m1 mcc zz hw3 hS hW HN
  go_wp2_with (refine wpList_store_row rfl 77 (.tmp 8) (.tmp 15) rfl w1.heap.size c rfl rfl 77 z (heap_alloc_last _ _) (by rw [Hc.out.1.size rfl]; exact Hz.out.2.1) (by rw [Hc.out.1.size rfl, Hz.out.2.2]) (Hc.out.1.one rfl rfl rfl rfl rfl) ?_; rw [World.setRow_alloc_new, ← Hw3.out])
  go_loopg [] fuel (fun g wr => ∃ (x : Ms) (se : List Se), Run wr w1.heap.size (.slice ra p.rl rc) (.slice (some ⟨cb, co, none⟩) p.cl cc) x se ∧ Below w1.heap.size w3 wr ∧ ((∃ k s, Way p m fuel g R x se k s) ∨ (x.ended = true ∧ Fin_ m R x se)))
  case atStart =>
    obtain ⟨x, se, h1, h2⟩ := HA.out
    exact ⟨x, se, h1, Below.refl _ _, h2⟩
  case round =>
    obtain ⟨x, se, hrun, hbel, hway⟩ := hrel
    have HB : Hid (Below w1.heap.size w3 wr) := hbel
    have HG : Hid (Calls Try.prog 46 #[.pointer (some ⟨w1.heap.size, 0, none⟩)] wr fun e w' => Below w1.heap.size wr w' ∧ ∃ (b : Bool) (x' : Ms), e = .returned (.bool b) ∧ Run w' w1.heap.size (.slice ra p.rl rc) (.slice (some ⟨cb, co, none⟩) p.cl cc) x' se ∧ ((b = false ∧ Fin_ m R x' se) ∨ (b = true ∧ ∃ g' k s, gk = g' + 1 ∧ Way p m fuel gk R x' se k s ∧ s.at_ < p.cl))) :=
      goesOn_all p m fuel gk R wr w1.heap.size (.slice ra p.rl rc) (some ⟨cb, co, none⟩) cc x se H.out.2.2.2.2.2.2.2.2.1 hrun hway
    clear hrun hbel hway HA
    go_wp2_with (fail)
    refine HG.out.mono ?_
    rintro e w4 ⟨b4, b, x', rfl, r4, hcase⟩
    have HB4 : Hid (Below w1.heap.size w3 w4) := Below.trans HB.out b4
    have HR4 : Hid (Run w4 w1.heap.size (.slice ra p.rl rc) (.slice (some ⟨cb, co, none⟩) p.cl cc) x' se) := r4
    clear b4 r4 HG HB
    rcases hcase with ⟨rfl, hfin⟩ | ⟨rfl, g', k, s, rfl, hway, hat⟩
    · have HF : Hid (Fin_ m R x' se) := hfin
      clear hfin
      go_wp2_with (fail)
      refine (seq_told w4 w1.heap.size ra p.rl rc _ x' se (baseN m.len) HR4.out (by rw [← H.out.2.2.2.1]; exact H.out.2.2.2.2.2.2.1) (fun j hj => HF.out.w.st j (by rw [H.out.2.2.2.1]; exact hj)) (fun j hj => by have := (H.out.2.2.2.2.2.1 j (by rw [H.out.2.2.2.1]; exact hj)).1; simp only [baseN]; omega) (fun j hj => by have := (H.out.2.2.2.2.2.1 j (by rw [H.out.2.2.2.1]; exact hj)).2; simp only [baseN]; omega) (fun j hj => by have h1 := baseN_le m.len j (fun i hi => (H.out.2.2.2.2.2.1 i (by rw [H.out.2.2.2.1]; omega)).2); have h2 := H.out.2.2.2.2.2.2.1; have h3 := H.out.2.2.2.1; omega) (by have := HF.out.short; omega)).mono ?_
      rintro e w5 ⟨v, rfl, hsh, b5⟩
      have hb5 : Below w1.heap.size w3 w5 := Below.trans HB4.out b5
      have HSH : Hid (∀ (B : Nat) (w'' : World), B < w1.heap.size → w5.grownBy w'' (some B) → ShownAt w'' v ⟨x'.fin, x'.val, x'.steps, se, ⟨p.rl, fun j => baseN m.len (j + 1) - baseN m.len j, fun j i => x'.wd (baseN m.len j + i)⟩⟩) := hsh
      obtain ⟨sv, lm, hv, hs1, hs2⟩ := hsh (w.heap.size + 1) w5 (by omega) (grown_refl _ _)
      clear hsh
      dsimp only at hv
      subst hv
      have HB5 : Hid (Below w1.heap.size w3 w5) := hb5
      obtain ⟨sa, sb, so, sc, rfl, _, _, _⟩ := hs1
      have kept : ∀ j v, Wr w3 (w.heap.size + 1) j v → Wr w5 (w.heap.size + 1) j v := fun j v hv => ⟨by rw [Below.cell hb5 (by dsimp only; omega)]; exact hv.1, by rw [World.frozen?_of_block (Below.block hb5 _ (by dsimp only; omega))]; exact hv.2⟩
      obtain ⟨y0, g0⟩ := kept _ _ HZ.out.1
      obtain ⟨y1, g1⟩ := kept _ _ HZ.out.2.1
      obtain ⟨y2, g2⟩ := kept _ _ HZ.out.2.2.1
      obtain ⟨y3, g3⟩ := kept _ _ HZ.out.2.2.2.1
      obtain ⟨y4, g4⟩ := kept _ _ HZ.out.2.2.2.2
      clear hs2 hb5 b5 kept
      obtain ⟨la, hla⟩ : ∃ la, lm.ma = la := ⟨_, rfl⟩
      obtain ⟨lc, hlc⟩ : ∃ lc, lm.mc = lc := ⟨_, rfl⟩
      rw [hla, hlc] at HSH ⊢
      clear hla hlc
      go_wp2
      refine bodyPost_ret (v := .tuple #[.agg #[.int .i64 x'.fin, .int .i64 x'.val, .int .i64 x'.steps, .slice sa se.length sc, .slice la p.rl lc], .int .i64 0]) (by simp [results, Try.results23, go_sem, *]) rfl ?_
      rw [HP.out]
      have hg : w5.grownBy (((((w5.setCell ⟨w.heap.size + 1, 0, none⟩ (.int .i64 x'.fin)).setCell ⟨w.heap.size + 1, 1, none⟩ (.int .i64 x'.val)).setCell ⟨w.heap.size + 1, 2, none⟩ (.int .i64 x'.steps)).setCell ⟨w.heap.size + 1, 3, none⟩ (.slice sa se.length sc)).setCell ⟨w.heap.size + 1, 4, none⟩ (.slice la p.rl lc)) (some (w.heap.size + 1)) := gr_set (gr_set (gr_set (gr_set (gr_set (grown_refl _ _) _ _) _ _) _ _) _ _) _ _
      have hsh := HSH.out (w.heap.size + 1) _ (by omega) hg
      have esh : (⟨x'.fin, x'.val, x'.steps, se, ⟨p.rl, fun j => baseN m.len (j + 1) - baseN m.len j, fun j i => x'.wd (baseN m.len j + i)⟩⟩ : Sh) = ⟨R.fin, R.val, R.steps, R.seen, ⟨p.rl, fun j => baseN m.len (j + 1) - baseN m.len j, fun j i => x'.wd (baseN m.len j + i)⟩⟩ := by rw [HF.out.fin, HF.out.val, HF.out.steps, HF.out.seen]
      rw [esh] at hsh
      have hmore : More w w5 := Below.trans Hm3.out (Below.mono HB5.out (by omega))
      refine ⟨.agg #[.int .i64 x'.fin, .int .i64 x'.val, .int .i64 x'.steps, .slice sa se.length sc, .slice la p.rl lc], _, rfl, hsh, ?_, hmore.grownBy hg (fun b hb => by have := Option.some.inj hb; omega)⟩
      have := fin_like HF.out
      rw [H.out.2.2.2.1] at this
      exact this
    · have HW : Hid (Way p m fuel (g' + 1) R x' se k s ∧ s.at_ < p.cl) := ⟨hway, hat⟩
      clear hway hat
      have hcb : cb < w1.heap.size := by
        have h0 := (H.out.1.code 0 (by have := H.out.2.2.2.2.2.2.2.1; omega)).1
        have := cell_block h0
        dsimp only at this
        omega
      have hcode := H.out.1.code s.at_ HW.out.2
      have cellsB : ∀ (a : Addr) (v : Value), a.block < w.heap.size → w.cell? a = some v → w4.cell? a = some v := fun a v ha hc => by
        rw [Below.cell HB4.out (by omega)]; exact Hm3.out.cell hc
      have hcb2 : cb < w.heap.size := cell_block hcode.1
      have q0 := cellsB _ _ hcb2 hcode.1
      have q1 := cellsB _ _ hcb2 hcode.2.1
      have q2 := cellsB _ _ hcb2 hcode.2.2.1
      have q3 := cellsB _ _ hcb2 hcode.2.2.2.1
      have q4 := cellsB _ _ hcb2 hcode.2.2.2.2
      dsimp only at q0 q1 q2 q3 q4
      have hkk := HW.out.1.kg
      have hsl := HW.out.1.inv.seen
      have hB0 := seq_begin _ _ _ _ _ w4 w1.heap.size (.slice ra p.rl rc) cb co p.cl cc s.at_ x' se (by rw [HW.out.1.seen]; have := H.out.2.2.2.2.2.2.2.2.1; omega) HW.out.1.rel.next HW.out.2 H.out.2.2.2.2.2.2.2.1.2 (by rw [HW.out.1.rel.steps]; omega) (by rw [HW.out.1.rel.steps]; have := H.out.2.2.2.2.2.2.2.2.1; omega) hcb q0 q1 q2 q3 q4 HR4.out
      have hD0 : ∀ w6, Run w6 w1.heap.size (.slice ra p.rl rc) (.slice (some ⟨cb, co, none⟩) p.cl cc) { x' with steps := x'.steps + 1, next := (s.at_ : Int) + 1 } (se ++ [⟨1, s.at_, 0⟩]) → Calls Try.prog 47 #[.pointer (some ⟨w1.heap.size, 0, none⟩), .agg #[.int .i64 (p.ins s.at_).op, .int .i64 (p.ins s.at_).a, .int .i64 (p.ins s.at_).b, .int .i64 (p.ins s.at_).c, .int .i64 (p.ins s.at_).n]] w6 fun e w' =>
          e = .returned (.tuple #[]) ∧ Below w1.heap.size w6 w' ∧ ∃ x2, Run w' w1.heap.size (.slice ra p.rl rc) (.slice (some ⟨cb, co, none⟩) p.cl cc) x2 (stepI p s).1.seen ∧ ((∃ k s', Way p m fuel g' R x2 (stepI p s).1.seen k s') ∨ (x2.ended = true ∧ Fin_ m R x2 (stepI p s).1.seen)) := by
        intro w6 r6
        have hrel := HW.out.1.rel
        rw [HW.out.1.seen] at r6
        refine (seq_do p m fuel s (k + 1) { x' with steps := x'.steps + 1, next := (s.at_ : Int) + 1 } w6 w1.heap.size _ _ (H.out.2.1 _ HW.out.2) H.out.2.2.2.1 H.out.2.2.2.2.2.2.1 H.out.2.2.2.2.1 H.out.2.2.2.2.2.1 HW.out.1.inv.len (by have := H.out.2.2.2.2.2.2.2.2.1; omega) ⟨hrel.r, ⟨hrel.w.wd, hrel.w.st⟩, by push_cast; rfl, hrel.fin, hrel.val, by dsimp only; rw [hrel.steps]; push_cast; rfl, hrel.fuel, hrel.ended⟩ r6).mono ?_
        rintro e w7 ⟨rfl, b7, x2, r7, ha⟩
        exact ⟨rfl, b7, x2, r7, way_next HW.out.1 HW.out.2 (H.out.2.1 _ HW.out.2) (H.out.2.2.1 _ HW.out.2) H.out.2.2.2.1 H.out.2.2.2.2.2.2.2.2.1 ha⟩
      clear q0 q1 q2 q3 q4 hcode cellsB hcb hcb2 hkk hsl
      obtain ⟨I, hI⟩ : ∃ I, p.ins s.at_ = I := ⟨_, rfl⟩
      rw [hI] at hB0 hD0
      obtain ⟨op, a, b, c', n⟩ := I
      dsimp only at hB0 hD0
      obtain ⟨se2, hse2⟩ : ∃ se2, (stepI p s).1.seen = se2 := ⟨_, rfl⟩
      rw [hse2] at hD0
      have HB0 := hid_of hB0
      have HD0 := hid_of hD0
      clear hB0 hD0 hI hse2
      go_wp2_with (fail)
      refine HB0.out.mono ?_
      rintro e w6 ⟨rfl, r6, b6⟩
      have HD1 := hid_of (HD0.out w6 r6)
      have HB6 : Hid (Below w1.heap.size w3 w6) := Below.trans HB4.out b6
      clear r6 b6 HB0 HD0
      go_wp2_with (fail)
      refine HD1.out.mono ?_
      rintro e w7 ⟨rfl, b7, x2, r7, hway⟩
      have HB7 : Hid (Below w1.heap.size w3 w7) := Below.trans HB6.out b7
      have HW7 := hid_of (And.intro r7 hway)
      clear r7 b7 hway HD1
      go_wp2
      go_roundg g'
      case measure => omega
      case rel => exact ⟨x2, se2, HW7.out.1, HB7.out, HW7.out.2⟩
end Go.Proofs.Ytbfhchhggkpbdaa

/-
  What a program and a memory that were handed in lie like: read off the data that the statement speaks of.
-/
namespace Go.Proofs.Ytbfhchhggkpbdaa
open Go.ChangeShapes Go.WideShapes Go.ChangeAt Go.RowKit Go.Deep Go.Joins
set_option maxRecDepth 8000

theorem cells47 : Try.prog.cellsOf 66 = 2 := by kernel_rfl
theorem cells34 : Try.prog.cellsOf 34 = 5 := by kernel_rfl
theorem cells29 : Try.prog.cellsOf 29 = 2 := by kernel_rfl
theorem cells48 : Try.prog.cellsOf 67 = 1 := by kernel_rfl
theorem cells2 : Try.prog.cellsOf 2 = 1 := by kernel_rfl
theorem cells3 : Try.prog.cellsOf 3 = 1 := by kernel_rfl
theorem cells4 : Try.prog.cellsOf 4 = 1 := by kernel_rfl

def I64 (x : Int) : Prop := -9223372036854775808 ≤ x ∧ x ≤ 9223372036854775807
def Ins.fits (i : Ins) : Prop := I64 i.op ∧ I64 i.a ∧ I64 i.b ∧ I64 i.c ∧ I64 i.n

/-- What holds of every program that is handed in: the lengths and numbers are such as Go has. -/
structure Prg.Fit (p : Prg) : Prop where
  rl : p.rl ≤ maxLen
  cl : p.cl ≤ maxLen
  log : ∀ i, i < p.rl → I64 (p.log i)
  ins : ∀ i, i < p.cl → (p.ins i).fits

section
variable {H : Type} {enc : TypeId × Value → H} {W : World} {base : Nat} {held : Bool}

theorem plain_addr {a : Addr} {v : Value} (h : W.cell? a = some v) : a = ⟨a.block, a.off, none⟩ := by
  have := World.cell?_spot h
  cases a
  simp_all

theorem open_regs {fuel : Nat} {cs : List Value} {x : DataW H × List MemPlace} (h : DataW.trod enc Try.prog W base (fun _ => true) held fuel 26 cs = some x) :
    ∃ (ra : Option Addr) (rb ro rl rc : Nat) (log : Nat → Int) (sec : Nat → Bool), cs = [.slice ra rl rc] ∧ (0 < rl → ra = some ⟨rb, ro, none⟩) ∧ RegsAt W rb ro rl log sec ∧ rl ≤ rc ∧ rc ≤ maxLen ∧ ∀ i, i < rl → I64 (log i) := by
  rcases open_slice Try.underlying26 h with ⟨rfl, _⟩ | ⟨a, len, cap, m, n, D, Pl, rfl, hb, hl, hm, hmm, rfl, hx⟩
  · exact ⟨none, 0, 0, 0, 0, fun _ => 0, fun _ => false, rfl, fun h => by omega, fun i hi => by omega, Nat.le_refl _, Nat.zero_le _, fun i hi => by omega⟩
  have hlm : len ≤ m := by rw [hmm]; simpa using hl
  have each : ∀ i, i < len → ∃ q : Int × Bool, W.cell? (a.add (i * 2)) = some (.int .i64 q.1) ∧ W.cell? (a.add (i * 2 + 1)) = some (.bool q.2) ∧ I64 q.1 := by
    intro i hi
    obtain ⟨cs', h1, h2⟩ := hx i (by omega)
    rw [cells47] at h1
    obtain ⟨_, hlen, hcell⟩ := World.cells?_some h1
    obtain ⟨xs, k, hk, hxy, _, hxl, hf⟩ := DataW.trod_struct Try.underlying66 h2
    match cs', hlen with
    | [v0, v1], _ =>
      have g0 := hf 0 _ rfl
      have g1 := hf 1 _ rfl
      have e0 := hcell 0 (by omega)
      have e1 := hcell 1 (by omega)
      rw [add_add] at e0 e1
      simp [cells3, cells4] at g0 g1
      match xs, hxl with
      | [y0, y1], _ =>
        simp at g0 g1
        obtain ⟨z, hz, _, wz⟩ := DataW.trod_int Try.underlying3 g0
        obtain ⟨s, hs, _⟩ := DataW.trod_bool Try.underlying4 g1
        simp at hz hs e0 e1
        subst hz hs
        exact ⟨(z, s), e0, e1, bounds_i64 wz⟩
  obtain ⟨q, hq⟩ := choose_lt each
  refine ⟨some a, a.block, a.off, len, cap, fun i => (q i).1, fun i => (q i).2, rfl, fun h0 => ?_, fun i hi => ?_, hl, hm, fun i hi => (hq i hi).2.2⟩
  · have h1 := (hq 0 h0).1
    simp [Addr.add] at h1
    rw [← plain_addr h1]
  · have h1 := (hq 0 (by omega)).1
    simp [Addr.add] at h1
    have ha := plain_addr h1
    obtain ⟨b, o, s⟩ := a
    simp at ha
    subst ha
    have := hq i hi
    rw [add_plain, add_plain] at this
    exact ⟨by simpa using this.1, by have := this.2.1; simpa [Nat.add_assoc] using this⟩

theorem open_code {fuel : Nat} {cs : List Value} {x : DataW H × List MemPlace} (h : DataW.trod enc Try.prog W base (fun _ => true) held fuel 27 cs = some x) :
    ∃ (ca : Option Addr) (cb co cl cc : Nat) (ins : Nat → Ins), cs = [.slice ca cl cc] ∧ (0 < cl → ca = some ⟨cb, co, none⟩) ∧ CodeAt W cb co cl ins ∧ cl ≤ cc ∧ cc ≤ maxLen ∧ ∀ i, i < cl → (ins i).fits := by
  rcases open_slice Try.underlying27 h with ⟨rfl, _⟩ | ⟨a, len, cap, m, n, D, Pl, rfl, hb, hl, hm, hmm, rfl, hx⟩
  · exact ⟨none, 0, 0, 0, 0, fun _ => ⟨0, 0, 0, 0, 0⟩, rfl, fun h => by omega, fun i hi => by omega, Nat.le_refl _, Nat.zero_le _, fun i hi => by omega⟩
  have hlm : len ≤ m := by rw [hmm]; simpa using hl
  have each : ∀ i, i < len → ∃ q : Int × Int × Int × Int × Int, W.cell? (a.add (i * 5)) = some (.int .i64 q.1) ∧ W.cell? (a.add (i * 5 + 1)) = some (.int .i64 q.2.1) ∧ W.cell? (a.add (i * 5 + 2)) = some (.int .i64 q.2.2.1) ∧
      W.cell? (a.add (i * 5 + 3)) = some (.int .i64 q.2.2.2.1) ∧ W.cell? (a.add (i * 5 + 4)) = some (.int .i64 q.2.2.2.2) ∧ I64 q.1 ∧ I64 q.2.1 ∧ I64 q.2.2.1 ∧ I64 q.2.2.2.1 ∧ I64 q.2.2.2.2 := by
    intro i hi
    obtain ⟨cs', h1, h2⟩ := hx i (by omega)
    rw [cells34] at h1
    obtain ⟨_, hlen, hcell⟩ := World.cells?_some h1
    obtain ⟨xs, k, hk, hxy, _, hxl, hf⟩ := DataW.trod_struct Try.underlying34 h2
    match cs', hlen with
    | [v0, v1, v2, v3, v4], _ =>
      have g0 := hf 0 _ rfl
      have g1 := hf 1 _ rfl
      have g2 := hf 2 _ rfl
      have g3 := hf 3 _ rfl
      have g4 := hf 4 _ rfl
      have e0 := hcell 0 (by omega)
      have e1 := hcell 1 (by omega)
      have e2 := hcell 2 (by omega)
      have e3 := hcell 3 (by omega)
      have e4 := hcell 4 (by omega)
      rw [add_add] at e0 e1 e2 e3 e4
      simp [cells3, cells2] at g0 g1 g2 g3 g4
      match xs, hxl with
      | [y0, y1, y2, y3, y4], _ =>
        simp at g0 g1 g2 g3 g4
        obtain ⟨z0, hz0, _, wz0⟩ := DataW.trod_int Try.underlying3 g0
        obtain ⟨z1, hz1, _, wz1⟩ := DataW.trod_int Try.underlying3 g1
        obtain ⟨z2, hz2, _, wz2⟩ := DataW.trod_int Try.underlying3 g2
        obtain ⟨z3, hz3, _, wz3⟩ := DataW.trod_int Try.underlying3 g3
        obtain ⟨z4, hz4, _, wz4⟩ := DataW.trod_int Try.underlying2 g4
        simp at hz0 hz1 hz2 hz3 hz4 e0 e1 e2 e3 e4
        subst hz0 hz1 hz2 hz3 hz4
        exact ⟨(z0, z1, z2, z3, z4), e0, e1, e2, e3, e4, bounds_i64 wz0, bounds_i64 wz1, bounds_i64 wz2, bounds_i64 wz3, bounds_i64 wz4⟩
  obtain ⟨q, hq⟩ := choose_lt each
  refine ⟨some a, a.block, a.off, len, cap, fun i => ⟨(q i).1, (q i).2.1, (q i).2.2.1, (q i).2.2.2.1, (q i).2.2.2.2⟩, rfl, fun h0 => ?_, fun i hi => ?_, hl, hm, fun i hi => (hq i hi).2.2.2.2.2⟩
  · have h1 := (hq 0 h0).1
    simp [Addr.add] at h1
    rw [← plain_addr h1]
  · have h1 := (hq 0 (by omega)).1
    simp [Addr.add] at h1
    have ha := plain_addr h1
    obtain ⟨b, o, s⟩ := a
    simp at ha
    subst ha
    have := hq i hi
    rw [add_plain, add_plain, add_plain, add_plain, add_plain] at this
    obtain ⟨t0, t1, t2, t3, t4, _⟩ := this
    exact ⟨by simpa using t0, by simpa [Nat.add_assoc] using t1, by simpa [Nat.add_assoc] using t2, by simpa [Nat.add_assoc] using t3, by simpa [Nat.add_assoc] using t4⟩

theorem open_prog {v : Value} {d : DataW H} {ps : List MemPlace} {r : Reach} {b0 : Nat} (hv : Value.okWide Try.prog W r b0 29 v) (h : DataW.Trod enc Try.prog W base (fun _ => true) held 29 v d ps) :
    ∃ (p : Prg) (l : Loc), v = .agg #[.slice l.ra p.rl l.rc, .slice l.ca p.cl l.cc] ∧ PIn W p l ∧ p.Fit := by
  obtain ⟨v0, v1, y0, y1, n, rfl, rfl, rfl, h0, h1⟩ := open_agg2 Try.underlying29 (by kernel_rfl) cells29 hv h
  obtain ⟨ra, rb, ro, rl, rc, log, sec, e0, hra, hr, hrc, hrm, hlog⟩ := open_regs h0
  obtain ⟨ca, cb, co, cl, cc, ins, e1, hca, hc, hcc, hcm, hins⟩ := open_code h1
  simp at e0 e1
  subst e0 e1
  exact ⟨⟨rl, log, sec, cl, ins⟩, ⟨ra, rb, ro, rc, ca, cb, co, cc⟩, rfl, ⟨hra, hca, hr, hc⟩, ⟨Nat.le_trans hrc hrm, Nat.le_trans hcc hcm, hlog, hins⟩⟩

end
end Go.Proofs.Ytbfhchhggkpbdaa

/-
  Runs with more and with less fuel, on plain data: who has more goes on as the other one began, and who has ended stays so. And what a memory that was handed in lies like.
-/
namespace Go.Proofs.Ytbfhchhggkpbdaa
open Go.ChangeShapes Go.WideShapes Go.ChangeAt Go.RowKit Go.Deep Go.Joins
set_option linter.unusedVariables false
set_option maxRecDepth 8000

theorem step_end {p : Prg} {s : St} {e : Int × Int} (h : (stepI p s).2 = some e) : ¬ e.1 = 0 := by
  unfold stepI at h
  by_cases h7 : (p.ins s.at_).op = 7
  · rw [if_pos h7] at h; cases h
  rw [if_neg h7] at h
  by_cases h8 : (p.ins s.at_).op = 8
  · rw [if_pos h8] at h; cases h
  rw [if_neg h8] at h
  by_cases h9 : (p.ins s.at_).op = 9
  · rw [if_pos h9] at h
    have := (Option.some.inj h).symm
    subst this
    simp
  rw [if_neg h9] at h
  by_cases hp : 0 ≤ putI (p.ins s.at_)
  · rw [if_pos hp] at h
    by_cases hx : idxI s.r (p.ins s.at_) < 0 ∨ (s.m.len (p.ins s.at_).c.toNat : Int) ≤ idxI s.r (p.ins s.at_)
    · rw [if_pos hx] at h
      have := (Option.some.inj h).symm
      subst this
      decide
    rw [if_neg hx] at h
    by_cases h1 : putI (p.ins s.at_) = 1
    · rw [if_pos h1] at h; cases h
    · rw [if_neg h1] at h; cases h
  · rw [if_neg hp] at h; cases h

theorem step_seen (p : Prg) (s : St) : ∃ t, (stepI p s).1.seen = s.seen ++ t := by
  unfold stepI
  repeat' split
  all_goals first
    | exact ⟨_, rfl⟩
    | exact ⟨_, List.append_assoc _ _ _⟩

theorem run_begin (p : Prg) : ∀ (f k : Nat) (s : St), (k : Int) ≤ (runI p f k s).steps ∧ ∃ t, (runI p f k s).seen = s.seen ++ t
  | 0, k, s => ⟨Int.le_refl _, [], (List.append_nil _).symm⟩
  | f + 1, k, s => by
    obtain ⟨t, ht⟩ := step_seen p s
    rw [runI]
    by_cases h : p.cl ≤ s.at_
    · rw [if_pos h]; exact ⟨Int.le_refl _, [], (List.append_nil _).symm⟩
    rw [if_neg h]
    cases hq : (stepI p s).2 with
    | some e => exact ⟨by dsimp only; omega, t, ht⟩
    | none =>
      obtain ⟨h1, t', ht'⟩ := run_begin p f (k + 1) (stepI p s).1
      refine ⟨by dsimp only; omega, t ++ t', ?_⟩
      dsimp only
      rw [ht', ht, List.append_assoc]

/-- Who ended by its fuel has done all of it, and who has more goes on as it began. -/
theorem run_fuel (p : Prg) : ∀ (f g k : Nat) (s : St), f ≤ g → (runI p f k s).fin = 0 → (runI p f k s).steps = (k : Int) + f ∧ (k : Int) + f ≤ (runI p g k s).steps ∧ ∃ t, (runI p g k s).seen = (runI p f k s).seen ++ t
  | 0, g, k, s, _, _ => by
    obtain ⟨h1, t, ht⟩ := run_begin p g k s
    exact ⟨by simp [runI], by simpa using h1, t, ht⟩
  | f + 1, 0, k, s, h, _ => by omega
  | f + 1, g + 1, k, s, h, h0 => by
    rw [runI] at h0
    by_cases hc : p.cl ≤ s.at_
    · rw [if_pos hc] at h0; exact absurd h0 (by simp)
    rw [if_neg hc] at h0
    cases hq : (stepI p s).2 with
    | some e =>
      rw [hq] at h0
      exact absurd h0 (step_end hq)
    | none =>
      rw [hq] at h0
      have ih := run_fuel p f g (k + 1) (stepI p s).1 (by omega) h0
      have e1 : runI p (f + 1) k s = runI p f (k + 1) (stepI p s).1 := by rw [runI, if_neg hc, hq]
      have e2 : runI p (g + 1) k s = runI p g (k + 1) (stepI p s).1 := by rw [runI, if_neg hc, hq]
      rw [e1, e2]
      refine ⟨by rw [ih.1]; push_cast; omega, ?_, ih.2.2⟩
      have := ih.2.1
      push_cast at this ⊢
      omega

/-- Who has ended otherwise stays so. -/
theorem run_ended (p : Prg) : ∀ (f g k : Nat) (s : St), f ≤ g → ¬ (runI p f k s).fin = 0 → runI p g k s = runI p f k s
  | 0, g, k, s, _, h => absurd (by simp [runI]) h
  | f + 1, 0, k, s, h, _ => by omega
  | f + 1, g + 1, k, s, h, h0 => by
    by_cases hc : p.cl ≤ s.at_
    · rw [runI, if_pos hc, runI, if_pos hc]
    cases hq : (stepI p s).2 with
    | some e => rw [runI, if_neg hc, runI, if_neg hc, hq]
    | none =>
      have e1 : runI p (f + 1) k s = runI p f (k + 1) (stepI p s).1 := by rw [runI, if_neg hc, hq]
      have e2 : runI p (g + 1) k s = runI p g (k + 1) (stepI p s).1 := by rw [runI, if_neg hc, hq]
      rw [e1] at h0
      rw [e1, e2]
      exact run_ended p f g (k + 1) _ (by omega) h0

/-! ### A memory that was handed in -/
structure MRaw (w : World) (m : Mem) (l : MLoc) : Prop where
  hm : 0 < m.ml → l.ma = some ⟨l.mb, l.mo, none⟩
  lists : ListsAt w l.mb l.mo m.ml l.A m.len l.C
  hg : ∀ i, i < m.ml → 0 < m.len i → l.A i = some ⟨l.gb i, l.go i, none⟩
  words : ∀ i, i < m.ml → ∀ j, j < m.len i → w.cell? ⟨l.gb i, l.go i + j, none⟩ = some (.int .i64 (m.wd i j))
theorem MRaw.more {w w' : World} (m : More w w') {x : Mem} {l : MLoc} (h : MRaw w x l) : MRaw w' x l :=
  ⟨h.hm, h.lists.more m, h.hg, fun i hi j hj => m.cell (h.words i hi j hj)⟩
theorem MRaw.in_ {w : World} {m : Mem} {l : MLoc} (h : MRaw w m l) (h1 : m.ml ≤ 6) (h2 : ∀ i, i < m.ml → m.len i ≤ 64) : MIn w m l :=
  ⟨h.hm, h.lists, h.hg, h.words, by omega, fun i hi => by have := h2 i hi; omega⟩

theorem open_memw {H : Type} {enc : TypeId × Value → H} {W : World} {base : Nat} {held : Bool} {v : Value} {d : DataW H} {ps : List MemPlace} {r : Reach} {b0 : Nat}
    (hv : Value.okWide Try.prog W r b0 30 v) (h : DataW.Trod enc Try.prog W base (fun _ => true) held 30 v d ps) :
    ∃ (m : Mem) (l : MLoc), v = .slice l.ma m.ml l.mc ∧ MRaw W m l ∧ ∀ j, j < m.ml → ∀ i, i < m.len j → B64 (m.wd j i) := by
  obtain ⟨a0, len, cap, rfl⟩ := okWide_slice Try.underlying30 hv
  obtain ⟨fuel, hf⟩ := h
  rcases open_int_rows Try.underlying30 Try.underlying67 Try.underlying2 cells48 cells2 hf with ⟨hcs, _⟩ | ⟨a, len', cap', A, L, C, Z, hcs, _, hl, hm, _, hrow⟩
  · simp [Value.cells] at hcs
    obtain ⟨rfl, rfl, rfl⟩ := hcs
    exact ⟨⟨0, fun _ => 0, fun _ _ => 0⟩, ⟨none, 0, 0, 0, fun _ => none, fun _ => 0, fun _ => 0, fun _ => 0⟩, rfl, ⟨fun h => by simp at h, fun i hi => by simp at hi, fun i hi => by simp at hi, fun i hi => by simp at hi⟩, fun j hj => by simp at hj⟩
  · simp [Value.cells] at hcs
    obtain ⟨rfl, rfl, rfl⟩ := hcs
    have haddr : ∀ i, i < len → 0 < L i → ∃ a', A i = some a' ∧ a' = ⟨a'.block, a'.off, none⟩ := by
      intro i hi h0
      obtain ⟨_, h2, _, _, _, h6, h7⟩ := hrow i (by omega)
      cases hA : A i with
      | none => have := h6 hA; omega
      | some a' =>
        refine ⟨a', rfl, ?_⟩
        have := (h7 a' hA).2 0 (by omega)
        simp [Addr.add] at this
        exact plain_addr this
    refine ⟨⟨len, L, fun i j => (Z i).getD j 0⟩, ⟨some a, a.block, a.off, cap, A, C, fun i => ((A i).getD a).block, fun i => ((A i).getD a).off⟩, rfl, ⟨fun h0 => ?_, fun i hi => ?_, fun i hi h0 => ?_, fun i hi j hj => ?_⟩, fun j hj i hi => ?_⟩
    · dsimp only at h0 ⊢
      have h1 := (hrow 0 (by omega)).1
      simp [Addr.add] at h1
      rw [← plain_addr h1]
    · dsimp only at hi ⊢
      have h1 := (hrow 0 (by omega)).1
      simp [Addr.add] at h1
      have ha := plain_addr h1
      obtain ⟨b, o, s⟩ := a
      simp at ha
      subst ha
      have := (hrow i (by omega)).1
      rw [add_plain] at this
      exact this
    · dsimp only at hi h0 ⊢
      obtain ⟨a', e1, e2⟩ := haddr i hi h0
      rw [e1]
      simp only [Option.getD_some]
      rw [← e2]
    · dsimp only at hi hj ⊢
      obtain ⟨a', e1, e2⟩ := haddr i hi (by omega)
      have h2 := (hrow i (by omega)).2.1
      have := ((hrow i (by omega)).2.2.2.2.2.2 a' e1).2 j (by omega)
      rw [e1]
      simp only [Option.getD_some]
      rw [e2, add_plain] at this
      exact this
    · dsimp only at hj hi ⊢
      obtain ⟨_, h2, _, h4, h5, _, _⟩ := hrow j (by omega)
      have hlt : i < (Z j).length := by omega
      have : (Z j).getD i 0 ∈ Z j := by simp [List.getD, List.getElem?_eq_getElem hlt]
      exact bounds_i64 (h5 _ this)

end Go.Proofs.Ytbfhchhggkpbdaa

/-
  What the reference's shape, Regions and Words come to, called in whatever memory.
-/
namespace Go.Proofs.Ytbfhchhggkpbdaa
open Go.RowKit

def tri (x y z : Int) (j : Nat) : Int := if j = 0 then x else if j = 1 then y else z
theorem tri_cells {w : World} {g : Nat} {x y z : Int} (h0 : w.cell? ⟨g, 0, none⟩ = some (.int .i64 x)) (h1 : w.cell? ⟨g, 1, none⟩ = some (.int .i64 y)) (h2 : w.cell? ⟨g, 2, none⟩ = some (.int .i64 z)) :
    ∀ j, j < 3 → w.cell? ⟨g, j, none⟩ = some (.int .i64 (tri x y z j)) := by
  intro j hj
  have : j = 0 ∨ j = 1 ∨ j = 2 := by omega
  rcases this with rfl | rfl | rfl
  · exact h0
  · exact h1
  · exact h2

/-- What a shape is told as. -/
def Shape (x y z : Int) (num : Bool) (w : World) (e : Ending) (w' : World) : Prop :=
  ∃ g : Nat, e = .returned (.tuple #[.slice (some ⟨g, 0, none⟩) 3 3, .bool num, .bool true]) ∧ (∀ j, j < 3 → w'.cell? ⟨g, j, none⟩ = some (.int .i64 (tri x y z j))) ∧ More w w'

theorem shape_1 (w : World) : Calls Try.prog 91 #[.int .i64 1] w (Shape 1 0 0 true w) := by
  go_enter Try.func91, Try.ntmps91
  go_wp2
  go_ret3
  exact ⟨w.heap.size, rfl, tri_cells (by go_simp) (by go_simp) (by go_simp), (More.refl _).alloc _ _⟩

theorem shape_2 (w : World) : Calls Try.prog 91 #[.int .i64 2] w (Shape 1 1 0 false w) := by
  go_enter Try.func91, Try.ntmps91
  go_wp2
  go_ret3
  exact ⟨w.heap.size, rfl, tri_cells (by go_simp) (by go_simp) (by go_simp), (More.refl _).alloc _ _⟩

theorem shape_3 (w : World) : Calls Try.prog 91 #[.int .i64 3] w (Shape 1 1 2 true w) := by
  go_enter Try.func91, Try.ntmps91
  go_wp2
  go_ret3
  exact ⟨w.heap.size, rfl, tri_cells (by go_simp) (by go_simp) (by go_simp), (More.refl _).alloc _ _⟩

theorem shape_4 (w : World) : Calls Try.prog 91 #[.int .i64 4] w (Shape 1 1 2 true w) := by
  go_enter Try.func91, Try.ntmps91
  go_wp2
  go_ret3
  exact ⟨w.heap.size, rfl, tri_cells (by go_simp) (by go_simp) (by go_simp), (More.refl _).alloc _ _⟩

theorem shape_5 (w : World) : Calls Try.prog 91 #[.int .i64 5] w (Shape 1 0 2 true w) := by
  go_enter Try.func91, Try.ntmps91
  go_wp2
  go_ret3
  exact ⟨w.heap.size, rfl, tri_cells (by go_simp) (by go_simp) (by go_simp), (More.refl _).alloc _ _⟩

theorem shape_6 (w : World) : Calls Try.prog 91 #[.int .i64 6] w (Shape 1 0 2 true w) := by
  go_enter Try.func91, Try.ntmps91
  go_wp2
  go_ret3
  exact ⟨w.heap.size, rfl, tri_cells (by go_simp) (by go_simp) (by go_simp), (More.refl _).alloc _ _⟩

theorem shape_7 (w : World) : Calls Try.prog 91 #[.int .i64 7] w (Shape 0 0 0 true w) := by
  go_enter Try.func91, Try.ntmps91
  go_wp2
  go_ret3
  exact ⟨w.heap.size, rfl, tri_cells (by go_simp) (by go_simp) (by go_simp), (More.refl _).alloc _ _⟩

theorem shape_8 (w : World) : Calls Try.prog 91 #[.int .i64 8] w (Shape 1 1 2 true w) := by
  go_enter Try.func91, Try.ntmps91
  go_wp2
  go_ret3
  exact ⟨w.heap.size, rfl, tri_cells (by go_simp) (by go_simp) (by go_simp), (More.refl _).alloc _ _⟩

theorem shape_9 (w : World) : Calls Try.prog 91 #[.int .i64 9] w (Shape 1 0 0 false w) := by
  go_enter Try.func91, Try.ntmps91
  go_wp2
  go_ret3
  exact ⟨w.heap.size, rfl, tri_cells (by go_simp) (by go_simp) (by go_simp), (More.refl _).alloc _ _⟩

theorem shape_10 (w : World) : Calls Try.prog 91 #[.int .i64 10] w (Shape 1 1 0 true w) := by
  go_enter Try.func91, Try.ntmps91
  go_wp2
  go_ret3
  exact ⟨w.heap.size, rfl, tri_cells (by go_simp) (by go_simp) (by go_simp), (More.refl _).alloc _ _⟩

theorem shape_11 (w : World) : Calls Try.prog 91 #[.int .i64 11] w (Shape 1 0 0 true w) := by
  go_enter Try.func91, Try.ntmps91
  go_wp2
  go_ret3
  exact ⟨w.heap.size, rfl, tri_cells (by go_simp) (by go_simp) (by go_simp), (More.refl _).alloc _ _⟩

theorem shape_12 (w : World) : Calls Try.prog 91 #[.int .i64 12] w (Shape 0 0 0 false w) := by
  go_enter Try.func91, Try.ntmps91
  go_wp2
  go_ret3
  exact ⟨w.heap.size, rfl, tri_cells (by go_simp) (by go_simp) (by go_simp), (More.refl _).alloc _ _⟩

theorem shape_op (op : Int) (h1 : 20 < op) (h2 : op ≤ 30) (w : World) : Calls Try.prog 91 #[.int .i64 op] w (Shape 1 1 1 false w) := by
  go_enter Try.func91, Try.ntmps91
  go_wp2
  go_ret3
  exact ⟨w.heap.size, rfl, tri_cells (by go_simp) (by go_simp) (by go_simp), (More.refl _).alloc _ _⟩

theorem shape_else (op : Int) (h1 : ¬ op = 1) (h2 : ¬ op = 2) (h3 : ¬ op = 3) (h4 : ¬ op = 4) (h5 : ¬ op = 5) (h6 : ¬ op = 6) (h7 : ¬ op = 7) (h8 : ¬ op = 8) (h9 : ¬ op = 9) (h10 : ¬ op = 10) (h11 : ¬ op = 11) (h12 : ¬ op = 12) (h : ¬ (20 < op ∧ op ≤ 30)) (w : World) : Calls Try.prog 91 #[.int .i64 op] w fun e w' => e = .returned (.tuple #[.slice none 0 0, .bool false, .bool false]) ∧ w' = w := by
  by_cases h20 : 20 < op
  · have h30 : ¬ op ≤ 30 := fun k => h ⟨h20, k⟩
    clear h
    go_enter Try.func91, Try.ntmps91
    go_wp2
    go_ret3
    exact ⟨rfl, rfl⟩
  · clear h
    go_enter Try.func91, Try.ntmps91
    go_wp2
    go_ret3
    exact ⟨rfl, rfl⟩

set_option maxHeartbeats 400000 in
theorem ref_regions (ra : Option Addr) (rl rc : Nat) (ca : Option Addr) (cl cc : Nat) (b o : Nat) (log : Nat → Int) (sec : Nat → Bool) (w : World)
    (hra : 0 < rl → ra = some ⟨b, o, none⟩) (hr : RegsAt w b o rl log sec) :
    Calls Try.prog 43 #[.agg #[.slice ra rl rc, .slice ca cl cc]] w (Says (RegionsOk rl log) w) := by
  by_cases h6 : 6 < rl
  · have Hr : Hid (RegsAt w b o rl log sec) := hr
    clear hr
    have h6' : (6 : Int) < (rl : Int) := by omega
    go_enter Try.func43, Try.ntmps43
    go_wp2
    go_ret
    exact Says.no (fun h => by have := h.1; omega) ((More.refl _).alloc _ _)
  · have h6' : ¬ (6 : Int) < (rl : Int) := by omega
    have Hr : Hid (RegsAt w b o rl log sec) := hr
    have Ha : Hid (0 < rl → ra = some ⟨b, o, none⟩) := hra
    clear hr hra
    go_enter Try.func43, Try.ntmps43
    go_wp2
    go_loopg [3] rl (fun g i wr => ∃ k : Nat, k + g = rl ∧ i = .int .i64 k ∧ (∀ j, j < k → 0 ≤ log j ∧ log j ≤ 6) ∧ wr = w.alloc (.cells #[.slice ra rl rc, .slice ca cl cc] 29))
    case atStart => exact ⟨0, by omega, rfl, fun j hj => by omega, rfl⟩
    case round =>
      obtain ⟨k, hkg, rfl, hok, rfl⟩ := hrel
      have Hok : Hid (∀ j, j < k → 0 ≤ log j ∧ log j ≤ 6) := hok
      clear hok
      cases gk with
      | zero =>
        obtain rfl : k = rl := by omega
        go_wp2
        go_ret
        exact Says.yes ⟨by omega, Hok.out⟩ ((More.refl _).alloc _ _)
      | succ g =>
        have hk : k < rl := by omega
        have hk' : (k : Int) < (rl : Int) := by omega
        obtain rfl := Ha.out (by omega)
        have hc0 := ((Hr.out.more ((More.refl _).alloc #[.slice (some ⟨b, o, none⟩) rl rc, .slice ca cl cc] 29)) k hk).1
        by_cases hlo : log k < 0
        · go_wp2
          go_ret
          exact Says.no (fun h => by have := (h.2 k hk).1; omega) ((More.refl _).alloc _ _)
        · by_cases hhi : 6 < log k
          · go_wp2
            go_ret
            exact Says.no (fun h => by have := (h.2 k hk).2; omega) ((More.refl _).alloc _ _)
          · go_wp2
            go_roundg g
            case measure => omega
            case rel =>
              refine ⟨k + 1, by omega, by first | rfl | simp, fun j hj => ?_, rfl⟩
              by_cases e : j = k
              · subst e; omega
              · exact Hok.out j (by omega)

theorem ref_words (l : Int) (h0 : 0 ≤ l) (h1 : l ≤ 6) (s : Bool) (w : World) :
    Calls Try.prog 44 #[.agg #[.int .i64 l, .bool s]] w fun e w' => e = .returned (.int .i64 (wordsI l)) ∧ More w w' := by
  obtain ⟨n, rfl⟩ : ∃ n : Nat, l = n := ⟨l.toNat, by omega⟩
  have hn : n ≤ 6 := by omega
  clear h0 h1
  obtain ⟨R, HR⟩ : ∃ R, Hid (wordsI (n : Int) = R) := ⟨_, rfl⟩
  rw [HR.out]
  go_enter Try.func44, Try.ntmps44
  go_wp2
  go_loopg [3, 4] n (fun g nv i wr => ∃ (k : Nat) (m : Int), k + g = n ∧ m = 2 ^ k ∧ nv = .int .i64 m ∧ i = .int .i64 k ∧ wr = w.alloc (.cells #[.int .i64 n, .bool s] 66))
  case atStart => exact ⟨0, 1, by omega, by decide, rfl, rfl, rfl⟩
  case round =>
    obtain ⟨k, m, hkg, hm, rfl, rfl, rfl⟩ := hrel
    have hb := two_pow_le (k := k) (by omega)
    rw [← hm] at hb
    have Hm : Hid (m = 2 ^ k) := hm
    clear hm
    obtain ⟨b0, b1⟩ := hb
    cases gk with
    | zero =>
      obtain rfl : k = n := by omega
      go_wp2
      go_ret
      refine ⟨?_, (More.refl _).alloc _ _⟩
      rw [Hm.out, ← HR.out]
      simp [wordsI]
    | succ g =>
      have hk' : (k : Int) < (n : Int) := by omega
      go_wp2
      go_roundg g
      case measure => omega
      case rel =>
        refine ⟨k + 1, m + m, by omega, by rw [Int.pow_succ, ← Hm.out]; omega, ?_, by first | rfl | simp, rfl⟩
        first | rfl | (simp; unfold wrap64; omega)

end Go.Proofs.Ytbfhchhggkpbdaa

/-
  Plain facts on arrays of 64 bits and on the numbers that they are; no Go text in sight.
-/
namespace Go.Proofs.Ytbfhchhggkpbdaa
open Go.RowKit

/-- The cells of an array of 64 bools. -/
def arr (f : Nat → Bool) : Array Value := Array.ofFn (n := 64) fun i => .bool (f i.val)

theorem arr_size (f : Nat → Bool) : (arr f).size = 64 := by simp [arr]
theorem arr_one (f : Nat → Bool) : (arr f).all (·.oneCell') = true := by
  rw [Array.all_eq_true]; intro i hi; simp [arr]; rfl
theorem arr_get (f : Nat → Bool) (i : Nat) (h : i < 64) : (arr f)[i]? = some (.bool (f i)) := by
  simp [arr, h]
theorem arr_set (f : Nat → Bool) (k : Nat) (b : Bool) : (arr f).setIfInBounds k (.bool b) = arr (fun i => if i = k then b else f i) := by
  apply Array.ext_getElem?
  intro i
  rw [Array.getElem?_setIfInBounds, arr_size]
  by_cases hi : i < 64
  · rw [arr_get _ _ hi, arr_get _ _ hi]
    by_cases h : k = i
    · subst h; simp [hi]
    · have h' : ¬ i = k := fun e => h e.symm
      simp [h, h']
  · have e1 : (arr f)[i]? = none := by simp [arr_size]; omega
    have e2 : (arr (fun i => if i = k then b else f i))[i]? = none := by simp [arr_size]; omega
    rw [e1, e2]
    by_cases h : k = i
    · subst h; simp [hi]
    · simp [h]
theorem arr_ext {f g : Nat → Bool} (h : ∀ i, i < 64 → f i = g i) : arr f = arr g := by
  apply Array.ext
  · simp [arr]
  · intro i h1 h2
    have : i < 64 := by simpa [arr] using h1
    simp [arr, h i this]
theorem arr_zero : arr (fun _ => false) = Array.replicate 64 (.bool false) := by
  apply Array.ext
  · simp [arr]
  · intro i h1 h2; simp [arr]

/-- The number of the first bits. -/
def val (f : Nat → Bool) : Nat → Nat
  | 0 => 0
  | k + 1 => val f k + if f k then 2 ^ k else 0

theorem val_ext {f g : Nat → Bool} : ∀ k, (∀ i, i < k → f i = g i) → val f k = val g k
  | 0, _ => rfl
  | k + 1, h => by
    rw [val, val, val_ext k (fun i hi => h i (by omega)), h k (by omega)]

theorem val_testBit (u : Nat) : ∀ k, val (fun i => u.testBit i) k = u % 2 ^ k
  | 0 => by simp [val, Nat.mod_one]
  | k + 1 => by
    rw [val, val_testBit u k, Nat.mod_pow_succ, Nat.testBit_eq_decide_div_mod_eq]
    rcases Nat.mod_two_eq_zero_or_one (u / 2 ^ k) with h | h <;> simp [h]

theorem val_all (u : Nat) (h : u < 18446744073709551616) : val (fun i => u.testBit i) 64 = u := by
  rw [val_testBit]; exact Nat.mod_eq_of_lt h

/-! ### Halving a number, bit by bit -/
theorem half_bit (a : Int) (k : Nat) (hk : k < 64) : (toU a).testBit k = decide (a / 2 ^ k % 2 = 1) := by
  have hM : (18446744073709551616 : Int) = 2 ^ k * (2 * 2 ^ (63 - k)) := by
    have : (18446744073709551616 : Int) = 2 ^ 64 := by decide
    rw [this, show (64 : Nat) = k + (1 + (63 - k)) by omega, Int.pow_add, Int.pow_add]; simp
  have h1 : a % 18446744073709551616 = a + 2 ^ k * (-(2 * 2 ^ (63 - k) * (a / 18446744073709551616))) := by
    have h := Int.emod_add_mul_ediv a 18446744073709551616
    have e : (18446744073709551616 : Int) * (a / 18446744073709551616) = 2 ^ k * (2 * 2 ^ (63 - k) * (a / 18446744073709551616)) := by
      rw [← Int.mul_assoc, ← hM]
    rw [Int.mul_neg, ← e]; omega
  have h2 : a % 18446744073709551616 / 2 ^ k = a / 2 ^ k + -(2 * 2 ^ (63 - k) * (a / 18446744073709551616)) := by
    rw [h1, Int.add_mul_ediv_left _ _ (by have : (0 : Int) < 2 ^ k := Int.pow_pos (by decide); omega)]
  have h3 : (a / 2 ^ k + -(2 * 2 ^ (63 - k) * (a / 18446744073709551616))) % 2 = a / 2 ^ k % 2 := by
    rw [Int.mul_assoc]
    generalize 2 ^ (63 - k) * (a / 18446744073709551616) = d
    generalize a / 2 ^ k = n
    omega
  rw [Nat.testBit_eq_decide_div_mod_eq]
  congr 1
  apply propext
  have h4 : ((toU a / 2 ^ k % 2 : Nat) : Int) = a / 2 ^ k % 2 := by
    push_cast
    rw [toU_cast, h2, h3]
  omega

theorem half_next (a : Int) (k : Nat) : a / 2 ^ (k + 1) = a / 2 ^ k / 2 := by
  rw [Int.pow_succ, Int.ediv_ediv_of_nonneg (by have : (0 : Int) < 2 ^ k := Int.pow_pos (by decide); omega)]

end Go.Proofs.Ytbfhchhggkpbdaa
