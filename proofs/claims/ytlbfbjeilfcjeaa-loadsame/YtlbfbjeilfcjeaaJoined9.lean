/-
  The texts HdClone, HdMake, WdPut, WdGet, LdLay, LdFitting, WdBack, LdTight, LdDoes, LdLike, WdWord, Hard, WdPutD, one behind the other, with what is used of them.
-/
import Derived.Test.YtlbfbjeilfcjeaaJoined0
import Derived.Test.YtlbfbjeilfcjeaaProg
import Derived.Test.YtlbfbjeilfcjeaaJoined8
import Derived.Lib.SliceRun
import Derived.Test.YtlbfbjeilfcjeaaJoined4
import Derived.Deep.LoopGhost
import Derived.Deep.OwnRows
import Derived.Laws.BitsAllLaws
import Derived.Test.YtlbfbjeilfcjeaaJoined3
namespace Go.Proofs.Ytlbfbjeilfcjeaa
section
open Go.RowKit
set_option linter.unusedSimpArgs false
set_option linter.unusedVariables false
set_option maxRecDepth 8000
theorem info74r : (Try.prog.info? 64).map (fun i => (i.zero, i.size, i.bytes)) = some (some (.agg #[.int .i64 0, .bool false]), 2, 16) := by kernel_rfl

/-- Regions as pairs. -/
def regK (log : Nat → Int) (sec : Nat → Bool) : KS := fun i => ⟨log i, sec i⟩

set_option maxHeartbeats 1000000 in
theorem clone_calls (a : Option Addr) (n c b o : Nat) (log : Nat → Int) (sec : Nat → Bool) (w : World) (ha : 0 < n → a = some ⟨b, o, none⟩) (hr : RegsAt w b o n log sec) (hn : n ≤ 6) :
  Calls Try.prog 30 #[.slice a n c] w fun e w' => ∃ (a' : Option Addr) (g c' : Nat), e = .returned (.slice a' n c') ∧ (0 < n → a' = some ⟨g, 0, none⟩) ∧ w.heap.size ≤ g ∧ RegsAt w' g 0 n log sec ∧ More w w' := by
 have qn : ∀ (w : World) (a : Option Addr) (n c n' c' : Nat), (binOp .eql 22 (.slice a n c) (.slice none n' c')).run Try.prog w = .ok (.bool a.isNone) w := fun w a n c n' c' => Lib.run_eql_slice_nil w _ _ a n c n' c' Try.underlying22
 cases a with
 | none =>
  obtain rfl : n = 0 := by
   rcases Nat.eq_zero_or_pos n with q | q
   ·exact q
   ·exact absurd (ha q) (by simp)
  clear ha hr hn
  go_enter Try.func30, Try.ntmps30
  go_wp2
  go_ret
  exact ⟨none, w.heap.size, 0, rfl, fun h => absurd h (Nat.lt_irrefl _), Nat.le_refl _, fun i hi => absurd hi (Nat.not_lt_zero _), More.refl _⟩
 | some ad =>
  obtain ⟨i0, hi, hz0, hz1, hz2⟩ := info_parts info74r
  have Hi : Hid (Try.prog.info? 64 = some i0 ∧ i0.zero = some (.agg #[.int .i64 0, .bool false]) ∧ i0.size = 2 ∧ i0.bytes = 16) := ⟨hi, hz0, hz1, hz2⟩
  have Hn : Hid (n ≤ 6) := hn
  have Hown1 : Hid ((w.alloc (.cells #[] 64)).ownsRow w.heap.size 64 2 (.slice (some ⟨w.heap.size, 0, none⟩) 0 0) 0 []) := World.ownsRow_made _ #[] 0 (Nat.le_refl _) (by unfold maxLen; omega) rfl
  have Hnews : Hid (0 < n → ∃ ad', some ad = some ad' ∧ ∀ j u, (flatK (regK log sec) n)[j]? = some u → (w.alloc (.cells #[] 64)).cell? (ad'.add j) = some u) := fun h0 => by
   refine ⟨_, ha h0, fun j u hu => ?_⟩
   have hj : j < n * 2 := by have := (List.getElem?_eq_some_iff.1 hu).1; rw [flatK_length] at this; exact this
   rw [Go.WideShapes.add_plain]
   have hk := hr (j / 2) (by omega)
   have hf := flatK_at (regK log sec) n (j / 2) (by omega)
   by_cases e : j % 2 = 0
   ·have e2 : j / 2 * 2 = j := by omega
    rw [e2] at hk hf
    rw [hf.1] at hu; rw [← Option.some.inj hu]; exact ((More.refl _).alloc _ _).cell hk.1
   ·have e2 : j / 2 * 2 + 1 = j := by omega
    have e3 : o + j / 2 * 2 + 1 = o + j := by omega
    rw [e3] at hk
    rw [e2] at hf
    rw [hf.2] at hu; rw [← Option.some.inj hu]; exact ((More.refl _).alloc _ _).cell hk.2
  clear hi hz0 hz1 hz2 hn ha hr
  go_enter Try.func30, Try.ntmps30
  go_wp2_with (at_builtin; refine wpList_append_any _ rfl (.tmp 5) (.tmp 6) 22 rfl w.heap.size 64 i0 (.agg #[.int .i64 0, .bool false]) 2 16 Try.underlying22 Hi.out.1 Hi.out.2.1 Hi.out.2.2.1 Hi.out.2.2.2 rfl (by decide) (.slice (some ⟨w.heap.size, 0, none⟩) 0 0) 0 [] rfl Hown1.out (some ad) n c (flatK (regK log sec) n) rfl (by rw [flatK_length]) Hnews.out (flatK_one _ n) (by have := Hn.out; unfold maxLen; omega) (by have := Hn.out; omega) (by simp) ?_; intro va cap w2 own2 gr2 hat2 hnn2)
  go_ret
  simp only [Nat.zero_add, List.nil_append] at own2 ⊢
  have hm : More w w2 := ((More.refl _).alloc _ _).grownBy gr2 (fun k hk => by
   have : w.heap.size = k := by simpa [Value.ownBlock] using hk
   omega)
  by_cases h0 : 0 < n
  ·obtain ⟨g, cap', hv, hlo, _⟩ := own2.form h0
   cases hv
   refine ⟨_, g, cap, rfl, fun _ => rfl, hlo, fun i hi => ?_, hm⟩
   have hf := flatK_at (regK log sec) n i hi
   simp only [Nat.zero_add]
   exact ⟨by rw [World.ownsRow.cellAt own2 (i * 2) (by omega)]; exact hf.1, by rw [World.ownsRow.cellAt own2 (i * 2 + 1) (by omega)]; exact hf.2⟩
  ·exact ⟨va, w.heap.size, cap, rfl, fun h => absurd h h0, Nat.le_refl _, fun i hi => absurd hi (by omega), hm⟩
/-- A program's values. -/
abbrev prgV (p : Prg) (l : Loc) : Value := .agg #[.slice l.ra p.rl l.rc, .slice l.ca p.cl l.cc]

theorem RegsAt.other {w : World} {b o rl : Nat} {log : Nat → Int} {sec : Nat → Bool} (h : RegsAt w b o rl log sec) {b' : Nat} (hb : b' ≠ b) (o' : Nat) (v : Value) : RegsAt (w.setCell ⟨b', o', none⟩ v) b o rl log sec := fun i hi =>
  ⟨by rw [World.cell?_setCell_other _ _ _ _ (by intro e; simp only [Addr.mk.injEq] at e; exact hb e.1)]; exact (h i hi).1, by rw [World.cell?_setCell_other _ _ _ _ (by intro e; simp only [Addr.mk.injEq] at e; exact hb e.1)]; exact (h i hi).2⟩
theorem CodeAt.other {w : World} {b o cl : Nat} {ins : Nat → Ins} (h : CodeAt w b o cl ins) {b' : Nat} (hb : b' ≠ b) (o' : Nat) (v : Value) : CodeAt (w.setCell ⟨b', o', none⟩ v) b o cl ins := fun i hi => by
  have k : ∀ x, (w.setCell ⟨b', o', none⟩ v).cell? ⟨b, x, none⟩ = w.cell? ⟨b, x, none⟩ := fun x => World.cell?_setCell_other _ _ _ _ (by intro e; simp only [Addr.mk.injEq] at e; exact hb e.1)
  rw [k, k, k, k, k]
  exact h i hi

/-- What Make tells. -/
def Made (p : Prg) (w : World) (e : Ending) (w' : World) : Prop :=
  ∃ f : Int × Int, Told p f ∧ More w w' ∧
    ((f.1 = 0 ∧ ∃ lh : Loc, PIn w' (hardP p) lh ∧ e = .returned (.tuple #[prgV (hardP p) lh, .agg #[.int .i64 0, .int .i64 0]])) ∨
     (¬ f.1 = 0 ∧ e = .returned (.tuple #[.agg #[.slice none 0 0, .slice none 0 0], .agg #[.int .i64 f.1, .int .i64 f.2]])))

set_option maxHeartbeats 2000000 in
theorem make_calls (p : Prg) (l : Loc) (w : World) (hp : PIn w p l) (hf : p.Fit) : Calls Try.prog 11 #[prgV p l] w (Made p w) := by
  unfold prgV
  have C1 : Hid (∀ w1 : World, More w w1 → Calls Try.prog 29 #[.agg #[.slice l.ra p.rl l.rc, .slice l.ca p.cl l.cc]] w1 fun e w' => ∃ f : Int × Int, Told p f ∧ e = .returned (.agg #[.int .i64 f.1, .int .i64 f.2]) ∧ More w1 w') := fun w1 m1 => check_told p l w1 (hp.more m1) hf
  have C2 : Hid (p.Ok 200 8 → ∀ w1 : World, More w w1 → Calls Try.prog 30 #[.slice l.ra p.rl l.rc] w1 fun e w' => ∃ (a' : Option Addr) (g c' : Nat), e = .returned (.slice a' p.rl c') ∧ (0 < p.rl → a' = some ⟨g, 0, none⟩) ∧ w1.heap.size ≤ g ∧ RegsAt w' g 0 p.rl p.log p.sec ∧ More w1 w') := fun ok w1 m1 =>
    clone_calls l.ra p.rl l.rc l.rb l.ro p.log p.sec w1 hp.hr (hp.regs.more m1) ok.1.1
  have C3 : Hid (p.Ok 200 8 → ∀ w1 : World, More w w1 → Calls Try.prog 31 #[.agg #[.slice l.ra p.rl l.rc, .slice l.ca p.cl l.cc]] w1 fun e w' => ∃ gc cap, e = .returned (.slice (some ⟨gc, 0, none⟩) (startL p p.cl) cap) ∧ w1.heap.size ≤ gc ∧ CodeAt w' gc 0 (startL p p.cl) (hardL p) ∧ More w1 w') := fun ok w1 m1 => hardened_calls p l w1 (hp.more m1) ok
  clear hp hf
  obtain ⟨ra, Hra⟩ : ∃ x, Hid (l.ra = x) := ⟨_, rfl⟩
  obtain ⟨rl, Hrl⟩ : ∃ x, Hid (p.rl = x) := ⟨_, rfl⟩
  obtain ⟨rc, Hrc⟩ : ∃ x, Hid (l.rc = x) := ⟨_, rfl⟩
  obtain ⟨ca, Hca⟩ : ∃ x, Hid (l.ca = x) := ⟨_, rfl⟩
  obtain ⟨cl, Hcl⟩ : ∃ x, Hid (p.cl = x) := ⟨_, rfl⟩
  obtain ⟨cc, Hcc⟩ : ∃ x, Hid (l.cc = x) := ⟨_, rfl⟩
  obtain ⟨sn, Hsn⟩ : ∃ x, Hid (startL p p.cl = x) := ⟨_, rfl⟩
  rw [Hsn.out] at C3
  rw [Hra.out, Hrl.out, Hrc.out, Hca.out, Hcl.out, Hcc.out] at C1 C3 ⊢
  rw [Hra.out, Hrl.out, Hrc.out] at C2
  go_enter Try.func11, Try.ntmps11
  obtain ⟨W0, HW0⟩ : ∃ W : World, Hid (W = ((w.alloc (.cells #[.slice ra rl rc, .slice ca cl cc] 25)).alloc (.cells #[.slice none 0 0, .slice none 0 0] 25)).alloc (.cells #[.int .i64 0, .int .i64 0] 29)) := ⟨_, rfl⟩
  have Hm0 : Hid (More w W0) := HW0.out ▸ (((More.refl _).alloc _ _).alloc _ _).alloc _ _
  have B0 : Hid (Blk W0 w.heap.size #[.slice ra rl rc, .slice ca cl cc] 25) := HW0.out ▸ (((Blk.last _ _ _).alloc _ _).alloc _ _)
  have B1 : Hid (Blk W0 (w.heap.size + 1) #[.slice none 0 0, .slice none 0 0] 25) := HW0.out ▸ ((by simpa using Blk.last (w.alloc (.cells #[.slice ra rl rc, .slice ca cl cc] 25)) #[.slice none 0 0, .slice none 0 0] 25 : Blk _ (w.heap.size + 1) _ _).alloc _ _)
  have B2 : Hid (Blk W0 (w.heap.size + 1 + 1) #[.int .i64 0, .int .i64 0] 29) := HW0.out ▸ (by simpa using Blk.last ((w.alloc (.cells #[.slice ra rl rc, .slice ca cl cc] 25)).alloc (.cells #[.slice none 0 0, .slice none 0 0] 25)) #[.int .i64 0, .int .i64 0] 29 : Blk _ (w.heap.size + 1 + 1) _ _)
  go_wp2_with (fail)
  rw [← HW0.out]
  refine (C1.out W0 Hm0.out).mono ?_
  rintro e w1 ⟨⟨f1, f2⟩, hT, rfl, m1⟩
  dsimp only
  have HT : Hid (Told p (f1, f2)) := hT
  have Hm1 : Hid (More W0 w1) := m1
  clear hT m1 C1
  obtain ⟨W, HW⟩ : ∃ W : World, Hid (W = w1.alloc (.cells #[.int .i64 f1, .int .i64 f2] 29)) := ⟨_, rfl⟩
  have HmW : Hid (More W0 W) := by rw [HW.out]; exact Hm1.out.alloc _ _
  have D0 : Hid (Blk W w.heap.size #[.slice ra rl rc, .slice ca cl cc] 25) := B0.out.more HmW.out
  have D1 : Hid (Blk W (w.heap.size + 1) #[.slice none 0 0, .slice none 0 0] 25) := B1.out.more HmW.out
  have D2 : Hid (Blk W (w.heap.size + 1 + 1) #[.int .i64 0, .int .i64 0] 29) := B2.out.more HmW.out
  have D3 : Hid (Blk W w1.heap.size #[.int .i64 f1, .int .i64 f2] 29) := by rw [HW.out]; exact Blk.last _ _ _
  have Hz1 : Hid (w.heap.size + 3 ≤ w1.heap.size) := by
    have h1 := (B2.out.more Hm1.out).lt
    show _ ≤ _
    omega
  by_cases h0 : f1 = 0
  · subst h0
    obtain ⟨hok, lk, hk, hk0⟩ := HT.out.ok rfl
    have HO : Hid (p.Ok 200 8) := hok
    clear hok hk hk0
    have C2' : Hid (∀ w1 : World, More w w1 → Calls Try.prog 30 #[.slice ra rl rc] w1 fun e w' => ∃ (a' : Option Addr) (g c' : Nat), e = .returned (.slice a' rl c') ∧ (0 < rl → a' = some ⟨g, 0, none⟩) ∧ w1.heap.size ≤ g ∧ RegsAt w' g 0 rl p.log p.sec ∧ More w1 w') := C2.out HO.out
    have C3' : Hid (∀ w1 : World, More w w1 → Calls Try.prog 31 #[.agg #[.slice ra rl rc, .slice ca cl cc]] w1 fun e w' => ∃ gc cap, e = .returned (.slice (some ⟨gc, 0, none⟩) sn cap) ∧ w1.heap.size ≤ gc ∧ CodeAt w' gc 0 sn (hardL p) ∧ More w1 w') := C3.out HO.out
    clear C2 C3
    obtain ⟨S, HS⟩ : ∃ S : World → Prop, Hid (∀ w', S w' ↔ Blk w' w.heap.size #[.slice ra rl rc, .slice ca cl cc] 25) := ⟨_, fun _ => Iff.rfl⟩
    have HS0 : S W.drew := (HS.out _).2 D0.out
    have k0 : ∀ i : { w' // S w' }, i.val.cell? ⟨w.heap.size, 0, none⟩ = some (.slice ra rl rc) := fun i => ((HS.out _).1 i.property).cell rfl
    have k1 : ∀ i : { w' // S w' }, i.val.cell? ⟨w.heap.size, 1, none⟩ = some (.slice ca cl cc) := fun i => ((HS.out _).1 i.property).cell rfl
    have hne : Nonempty { w' // S w' } := ⟨⟨_, HS0⟩⟩
    go_wp2_with (fail)
    rw [← HW.out]
    refine wp_region_ord (S := S) [(0, true), (1, true), (3, true), (6, true), (2, false), (4, false), (5, true), (7, false), (8, false)] (by kernel_rfl) (by kernel_rfl) (by kernel_rfl) HS0 ?_
    iterate 4 (refine wpOrd_take rfl (by kernel_rfl) (fun K hK => ?_); go_simp; refine hK _ _ ?_; clear hK K)
    refine wpOrd_busy rfl (by kernel_rfl) (fun K hK => ?_); go_simp
    have HmD : Hid (More w W.drew) := (Hm0.out.trans HmW.out).drew
    refine (C2'.out _ HmD.out).mono ?_
    rintro e w2 ⟨a', g, c', rfl, ha', hg, hregs, m2⟩
    have Hm2 : Hid (More W w2) := (More.refl W).drew.trans m2
    have Hreg2 : Hid ((0 < rl → a' = some ⟨g, 0, none⟩) ∧ W.heap.size ≤ g ∧ RegsAt w2 g 0 rl p.log p.sec) := ⟨ha', hg, hregs⟩
    clear ha' hg hregs m2
    go_simp
    refine hK _ _ ((HS.out _).2 (D0.out.more Hm2.out)) ?_; clear hK K
    refine wpOrd_busy rfl (by kernel_rfl) (fun K hK => ?_); go_simp
    refine (C3'.out w2 ((Hm0.out.trans HmW.out).trans Hm2.out)).mono ?_
    rintro e w3 ⟨gc, cap, rfl, hgc, hcode, m3⟩
    have Hm3 : Hid (More W w3) := Hm2.out.trans m3
    have Hreg3 : Hid (RegsAt w3 g 0 rl p.log p.sec) := Hreg2.out.2.2.more m3
    have Hcode3 : Hid (W.heap.size ≤ gc ∧ CodeAt w3 gc 0 sn (hardL p)) := ⟨Nat.le_trans Hm2.out.size hgc, hcode⟩
    clear hgc hcode m3
    have E1 : Hid (Blk w3 (w.heap.size + 1) #[.slice none 0 0, .slice none 0 0] 25) := D1.out.more Hm3.out
    have E2 : Hid (Blk w3 (w.heap.size + 1 + 1) #[.int .i64 0, .int .i64 0] 29) := D2.out.more Hm3.out
    have a0 : w3.cell? ⟨w.heap.size + 1, 0, none⟩ = some (.slice none 0 0) := E1.out.cell rfl
    have a1 : w3.cell? ⟨w.heap.size + 1, 1, none⟩ = some (.slice none 0 0) := E1.out.cell rfl
    have a2 : w3.cell? ⟨w.heap.size + 1 + 1, 0, none⟩ = some (.int .i64 0) := E2.out.cell rfl
    have a3 : w3.cell? ⟨w.heap.size + 1 + 1, 1, none⟩ = some (.int .i64 0) := E2.out.cell rfl
    have z0 := E1.out.frozen 0
    have z1 := E1.out.frozen 1
    have z2 := E2.out.frozen 0
    have z3 := E2.out.frozen 1
    go_simp
    refine hK _ _ ((HS.out _).2 (D0.out.more Hm3.out)) ?_; clear hK K
    refine wpOrd_take rfl (by kernel_rfl) (fun K hK => ?_); go_simp; refine hK _ _ ?_; clear hK K
    refine wpOrd_busy rfl (by kernel_rfl) (fun K hK => ?_); go_simp
    refine hK _ _ ((HS.out _).2 (((D0.out.more Hm3.out).other (by omega) _ _).other (by omega) _ _)) ?_; clear hK K
    refine wpOrd_busy rfl (by kernel_rfl) (fun K hK => ?_); go_simp
    refine hK _ _ ((HS.out _).2 (((((D0.out.more Hm3.out).other (by omega) _ _).other (by omega) _ _).other (by omega) _ _).other (by omega) _ _)) ?_; clear hK K
    refine wpOrd_done ?_
    clear k0 k1 hne HS0
    go_wp2
    refine bodyPost_ret (v := .tuple #[.agg #[.slice a' rl c', .slice (some ⟨gc, 0, none⟩) sn cap], .agg #[.int .i64 0, .int .i64 0]]) (by simp [results, Try.results11, go_sem, *]) rfl ?_
    have hzW := HmW.out.size
    have hz0 := (D2.out).lt
    have hg := Hreg2.out.2.1
    have hgc := Hcode3.out.1
    refine ⟨(0, f2), HT.out, ?_, .inl ⟨rfl, ⟨a', g, 0, c', some ⟨gc, 0, none⟩, gc, 0, cap⟩, ⟨?_, fun _ => rfl, ?_, ?_⟩, ?_⟩⟩
    · exact ((((((Hm0.out.trans HmW.out).trans Hm3.out).setCell (by show w.heap.size ≤ _; simp) _).setCell (by show w.heap.size ≤ _; simp) _).setCell (by show w.heap.size ≤ _; simp; omega) _).setCell (by show w.heap.size ≤ _; simp; omega) _)
    · intro h
      exact Hreg2.out.1 (by rw [← Hrl.out]; exact h)
    · have := (((Hreg3.out.other (b' := w.heap.size + 1) (by omega) 0 (.slice a' rl c')).other (b' := w.heap.size + 1) (by omega) 1 (.slice (some ⟨gc, 0, none⟩) sn cap)).other (b' := w.heap.size + 1 + 1) (by omega) 0 (.int .i64 0)).other (b' := w.heap.size + 1 + 1) (by omega) 1 (.int .i64 0)
      rw [← Hrl.out] at this ⊢
      exact this
    · have := (((Hcode3.out.2.other (b' := w.heap.size + 1) (by omega) 0 (.slice a' rl c')).other (b' := w.heap.size + 1) (by omega) 1 (.slice (some ⟨gc, 0, none⟩) sn cap)).other (b' := w.heap.size + 1 + 1) (by omega) 0 (.int .i64 0)).other (b' := w.heap.size + 1 + 1) (by omega) 1 (.int .i64 0)
      rw [← Hsn.out] at this ⊢
      exact this
    · unfold prgV hardP
      dsimp only
      rw [Hrl.out, Hsn.out]
  · have e0 : (f1 == 0) = false := by simp [h0]
    have e1 : (f1 != 0) = true := by simp [h0]
    have H0 : Hid (¬ f1 = 0) := h0
    clear h0 C2 C3
    obtain ⟨S, HS⟩ : ∃ S : World → Prop, Hid (∀ w', S w' ↔ Blk w' w1.heap.size #[.int .i64 f1, .int .i64 f2] 29) := ⟨_, fun _ => Iff.rfl⟩
    have HS0 : S W.drew := (HS.out _).2 D3.out
    have k0 : ∀ i : { w' // S w' }, i.val.cell? ⟨w1.heap.size, 0, none⟩ = some (.int .i64 f1) := fun i => ((HS.out _).1 i.property).cell rfl
    have k1 : ∀ i : { w' // S w' }, i.val.cell? ⟨w1.heap.size, 1, none⟩ = some (.int .i64 f2) := fun i => ((HS.out _).1 i.property).cell rfl
    have hne : Nonempty { w' // S w' } := ⟨⟨_, HS0⟩⟩
    have hz1 := Hz1.out
    have a0 : W.cell? ⟨w.heap.size + 1, 0, none⟩ = some (.slice none 0 0) := D1.out.cell rfl
    have a1 : W.cell? ⟨w.heap.size + 1, 1, none⟩ = some (.slice none 0 0) := D1.out.cell rfl
    have a2 : W.cell? ⟨w.heap.size + 1 + 1, 0, none⟩ = some (.int .i64 0) := D2.out.cell rfl
    have a3 : W.cell? ⟨w.heap.size + 1 + 1, 1, none⟩ = some (.int .i64 0) := D2.out.cell rfl
    have z0 := D1.out.frozen 0
    have z1 := D1.out.frozen 1
    have z2 := D2.out.frozen 0
    have z3 := D2.out.frozen 1
    go_wp2_with (fail)
    rw [← HW.out]
    refine wp_region_ord (S := S) [(0, true), (1, true), (2, false), (3, false)] (by kernel_rfl) (by kernel_rfl) (by kernel_rfl) HS0 ?_
    iterate 2 (refine wpOrd_take rfl (by kernel_rfl) (fun K hK => ?_); go_simp; refine hK _ _ ?_; clear hK K)
    refine wpOrd_busy rfl (by kernel_rfl) (fun K hK => ?_); go_simp
    refine hK _ _ ((HS.out _).2 ((D3.out.other (by omega) _ _).other (by omega) _ _)) ?_; clear hK K
    refine wpOrd_busy rfl (by kernel_rfl) (fun K hK => ?_); go_simp
    refine hK _ _ ((HS.out _).2 ((((D3.out.other (by omega) _ _).other (by omega) _ _).other (by omega) _ _).other (by omega) _ _)) ?_; clear hK K
    refine wpOrd_done ?_
    clear k0 k1 hne HS0
    go_wp2
    refine bodyPost_ret (v := .tuple #[.agg #[.slice none 0 0, .slice none 0 0], .agg #[.int .i64 f1, .int .i64 f2]]) (by simp [results, Try.results11, go_sem, *]) rfl ?_
    refine ⟨(f1, f2), HT.out, ?_, .inr ⟨H0.out, rfl⟩⟩
    exact (((((Hm0.out.trans HmW.out).setCell (by show w.heap.size ≤ _; simp) _).setCell (by show w.heap.size ≤ _; simp) _).setCell (by show w.heap.size ≤ _; simp; omega) _).setCell (by show w.heap.size ≤ _; simp; omega) _).drew
theorem info40 : (Try.prog.info? 80).map (fun i => (i.zero, i.size, i.bytes)) = some (some (.int .u32 0), 1, 4) := by kernel_rfl

/-- What Put answers. -/
def PutAns (p : Prg) (w : World) (e : Ending) (w' : World) : Prop :=
  ∃ f : Int × Int, PutR p f ∧ More w w' ∧
    ((f.1 = 0 ∧ ∃ g c, e = .returned (.tuple #[.slice (some ⟨g, 0, none⟩) p.cl c, .agg #[.int .i64 0, .int .i64 0]]) ∧ w.heap.size ≤ g ∧ WordsAt w' g 0 p.cl (fun j => encW (p.ins j))) ∨
     (¬ f.1 = 0 ∧ e = .returned (.tuple #[.slice none 0 0, .agg #[.int .i64 f.1, .int .i64 f.2]])))
theorem info39z : (Try.prog.info? 55).map (fun i => (i.zero, i.size, i.bytes)) = some (some (.agg #[.int .i64 0, .int .i64 0, .int .i64 0, .int .i64 0, .int .i64 0]), 5, 40) := by kernel_rfl

/-- The program that words are. -/
def getP (rl : Nat) (log : Nat → Int) (sec : Nat → Bool) (n : Nat) (f : Nat → Int) : Prg := ⟨rl, log, sec, n, fun j => decW (f j)⟩
def insL (f : Nat → Int) (n : Nat) : List Ins := (List.range n).map fun j => decW (f j)
theorem insL_next (f : Nat → Int) (n : Nat) : insL f (n + 1) = insL f n ++ [decW (f n)] := by simp [insL, List.range_succ]
theorem insL_get (f : Nat → Int) (n j : Nat) (h : j < n) : (insL f n)[j]? = some (decW (f j)) := by simp [insL, h]

/-- Where the loop stands. -/
structure G8 (w : World) (rv : Value) (f : Nat → Int) (k : Nat) (lv : Value) (wr : World) : Prop where
 res : Blk wr w.heap.size #[.slice none 0 0, .slice none 0 0] 25
 flt : Blk wr (w.heap.size + 1) #[.int .i64 0, .int .i64 0] 29
 prg : Blk wr (w.heap.size + 2) #[rv, lv] 25
 own : wr.ownsRow (w.heap.size + 3) 55 5 lv k (flatI (insL f k))
 more : More w wr

theorem Blk.put {w : World} {n : Nat} {cs : Array Value} {T : TypeId} (h : Blk w n cs T) (j : Nat) (v : Value) : Blk (w.setCell ⟨n, j, none⟩ v) n (cs.setIfInBounds j v) T := by
 unfold Blk at h ⊢
 unfold World.setCell
 simp [Array.getElem?_modify, h]
theorem Blk.put1 {w : World} {n : Nat} {x y z : Value} {T : TypeId} (h : Blk w n #[x, y] T) : Blk (w.setCell ⟨n, 1, none⟩ z) n #[x, z] T := by
 simpa using h.put 1 z

theorem G8.step {w : World} {rv : Value} {f : Nat → Int} {k : Nat} {lv : Value} {wr w1 w2 w3 : World} (h : G8 w rv f k lv wr) (m1 : More wr w1) (g2 : w1.grownBy w2 lv.ownBlock) {g c : Nat}
  (own : w2.ownsRow (w.heap.size + 3) 55 5 (.slice (some ⟨g, 0, none⟩) (k + 1) c) (k + 1) (flatI (insL f (k + 1)))) (e3 : w3 = w2.setCell ⟨w.heap.size + 2, 1, none⟩ (.slice (some ⟨g, 0, none⟩) (k + 1) c)) : G8 w rv f (k + 1) (.slice (some ⟨g, 0, none⟩) (k + 1) c) w3 := by
 have hb : ∀ b, lv.ownBlock = some b → w.heap.size + 3 ≤ b := fun b hb => (h.own.lt b hb).1
 have n3 : ∀ b, b < w.heap.size + 3 → some b ≠ lv.ownBlock := fun b hlt e => by have := hb b e.symm; omega
 have hg := (own.lt g rfl).1
 have up : ∀ {n cs T}, n < w.heap.size + 3 → Blk wr n cs T → Blk w2 n cs T := fun hn hB => by
  have h2 := hB.more m1
  exact (g2.block _ h2.lt (n3 _ hn)).trans h2
 subst e3
 refine ⟨(up (by omega) h.res).other (by omega) _ _, (up (by omega) h.flt).other (by omega) _ _, (up (by omega) h.prg).put1, ?_, ?_⟩
 ·exact World.ownsRow.kept own (grown_set _ _ _ _) (.inr (by simp [Value.ownBlock]; omega))
 ·exact ((h.more.trans m1).grownBy g2 (fun b e => by have := hb b e; omega)).setCell (by show w.heap.size ≤ _; simp) _

/-- What Get answers. -/
def GetAns (q : Prg) (w : World) (e : Ending) (w' : World) : Prop :=
 More w w' ∧ ((q.Ok 8000 10 ∧ ∃ lq : Loc, PIn w' q lq ∧ e = .returned (.tuple #[.agg #[.slice lq.ra q.rl lq.rc, .slice lq.ca q.cl lq.cc], .agg #[.int .i64 0, .int .i64 0]])) ∨
  (¬ q.Ok 8000 10 ∧ e = .returned (.tuple #[.agg #[.slice none 0 0, .slice none 0 0], .agg #[.int .i64 2, .int .i64 0]])))

set_option maxHeartbeats 2000000 in
theorem ref8_get (ra : Option Addr) (rl rc rb ro : Nat) (log : Nat → Int) (sec : Nat → Bool) (wa : Option Addr) (n wc wb wo : Nat) (f : Nat → Int) (w : World) (hra : 0 < rl → ra = some ⟨rb, ro, none⟩) (hr : RegsAt w rb ro rl log sec)
  (hwa : 0 < n → wa = some ⟨wb, wo, none⟩) (hw : WordsAt w wb wo n f) (hf : ∀ i, i < n → W32 (f i)) (hn : n ≤ 3000000000000) :
  Calls Try.prog 19 #[.slice ra rl rc, .slice wa n wc] w (GetAns (getP rl log sec n f) w) := by
 have H : Hid ((0 < rl → ra = some ⟨rb, ro, none⟩) ∧ RegsAt w rb ro rl log sec ∧ (0 < n → wa = some ⟨wb, wo, none⟩) ∧ WordsAt w wb wo n f ∧ ∀ i, i < n → W32 (f i)) := ⟨hra, hr, hwa, hw, hf⟩
 clear hra hr hwa hw hf
 obtain ⟨i0, hi, hz0, hz1, hz2⟩ := info_parts info39z
 have Hi : Hid (Try.prog.info? 55 = some i0 ∧ i0.zero = some (.agg #[.int .i64 0, .int .i64 0, .int .i64 0, .int .i64 0, .int .i64 0]) ∧ i0.size = 5 ∧ i0.bytes = 40) := ⟨hi, hz0, hz1, hz2⟩
 clear hi hz0 hz1 hz2
 have HS0 : Hid (G8 w (.slice ra rl rc) f 0 (.slice none 0 0) (((w.alloc (.cells #[.slice none 0 0, .slice none 0 0] 25)).alloc (.cells #[.int .i64 0, .int .i64 0] 29)).alloc (.cells #[.slice ra rl rc, .slice none 0 0] 25))) := by
  refine ⟨((Blk.last _ _ _).alloc _ _).alloc _ _, ?_, ?_, World.ownsRow_nil _ _ _ _, (((More.refl _).alloc _ _).alloc _ _).alloc _ _⟩
  ·exact (by simpa using Blk.last (w.alloc (.cells #[.slice none 0 0, .slice none 0 0] 25)) #[.int .i64 0, .int .i64 0] 29 : Blk _ (w.heap.size + 1) _ _).alloc _ _
  ·simpa using Blk.last ((w.alloc (.cells #[.slice none 0 0, .slice none 0 0] 25)).alloc (.cells #[.int .i64 0, .int .i64 0] 29)) #[.slice ra rl rc, .slice none 0 0] 25
 go_enter Try.func19, Try.ntmps19
 go_wp2_with (fail)
 go_loopg [7] n (fun g iv wr => ∃ (k : Nat) (va : Option Addr) (vc : Nat), k + g = n ∧ iv = .int .i64 k ∧ Hid (G8 w (.slice ra rl rc) f k (.slice va k vc) wr))
 case atStart => exact ⟨0, none, 0, by omega, rfl, HS0.out⟩
 case round =>
  obtain ⟨k, va, vc, hkg, rfl, Hr⟩ := hrel
  clear HS0
  have p0 : wr.cell? ⟨w.heap.size + 2, 0, none⟩ = some (.slice ra rl rc) := Hr.out.prg.cell rfl
  have p1 : wr.cell? ⟨w.heap.size + 2, 1, none⟩ = some (.slice va k vc) := Hr.out.prg.cell rfl
  have zp := Hr.out.prg.lt
  have zf := Hr.out.prg.frozen 1
  cases gk with
  | zero =>
   obtain rfl : k = n := by omega
   have hin : ∃ g, PIn wr (getP rl log sec k f) ⟨ra, rb, ro, rc, va, g, 0, vc⟩ ∧ (0 < k → w.heap.size + 3 ≤ g) := by
    by_cases h0 : 0 < k
    ·obtain ⟨g, c, hv, hlo, _⟩ := Hr.out.own.form h0
     cases hv
     refine ⟨g, ⟨H.out.1, fun _ => rfl, H.out.2.1.more Hr.out.more, fun i hi => ?_⟩, fun _ => hlo⟩
     have hi' : i < k := hi
     have e := flatI_at (insL f k) i _ (insL_get f k i hi')
     simp only [Nat.zero_add]
     exact ⟨by rw [World.ownsRow.cellAt Hr.out.own _ (by omega)]; exact e.1, by rw [World.ownsRow.cellAt Hr.out.own _ (by omega)]; exact e.2.1, by rw [World.ownsRow.cellAt Hr.out.own _ (by omega)]; exact e.2.2.1, by rw [World.ownsRow.cellAt Hr.out.own _ (by omega)]; exact e.2.2.2.1, by rw [World.ownsRow.cellAt Hr.out.own _ (by omega)]; exact e.2.2.2.2⟩
    ·exact ⟨0, ⟨H.out.1, fun h => absurd h h0, H.out.2.1.more Hr.out.more, fun i hi => absurd hi (by show ¬ i < k; omega)⟩, fun h => absurd h h0⟩
   obtain ⟨g, hin, hg⟩ := hin
   have Hin : Hid (PIn wr (getP rl log sec k f) ⟨ra, rb, ro, rc, va, g, 0, vc⟩ ∧ (0 < k → w.heap.size + 3 ≤ g)) := ⟨hin, hg⟩
   have CH : Calls Try.prog 43 #[.agg #[.slice ra rl rc, .slice va k vc]] wr fun e w' => ∃ r : Bool, e = .returned (.bool r) ∧ (r = true ↔ (getP rl log sec k f).Ok 8000 10) ∧ More wr w' := ref_hard (getP rl log sec k f) ⟨ra, rb, ro, rc, va, g, 0, vc⟩ wr hin
   clear hin hg
   go_wp2_with (fail)
   refine CH.mono ?_
   rintro e w1 ⟨r, rfl, hr, m1⟩
   have E0 : Hid (Blk w1 w.heap.size #[.slice none 0 0, .slice none 0 0] 25) := Hr.out.res.more m1
   have E1 : Hid (Blk w1 (w.heap.size + 1) #[.int .i64 0, .int .i64 0] 29) := Hr.out.flt.more m1
   have E2 : Hid (Blk w1 (w.heap.size + 2) #[.slice ra rl rc, .slice va k vc] 25) := Hr.out.prg.more m1
   have Hm1 : Hid (More w w1) := Hr.out.more.trans m1
   have Hin1 : Hid (PIn w1 (getP rl log sec k f) ⟨ra, rb, ro, rc, va, g, 0, vc⟩) := Hin.out.1.more m1
   clear m1 CH p0 p1 zp zf
   have p0 : w1.cell? ⟨w.heap.size + 2, 0, none⟩ = some (.slice ra rl rc) := E2.out.cell rfl
   have p1 : w1.cell? ⟨w.heap.size + 2, 1, none⟩ = some (.slice va k vc) := E2.out.cell rfl
   have a0 : w1.cell? ⟨w.heap.size, 0, none⟩ = some (.slice none 0 0) := E0.out.cell rfl
   have a1 : w1.cell? ⟨w.heap.size, 1, none⟩ = some (.slice none 0 0) := E0.out.cell rfl
   have a2 : w1.cell? ⟨w.heap.size + 1, 0, none⟩ = some (.int .i64 0) := E1.out.cell rfl
   have a3 : w1.cell? ⟨w.heap.size + 1, 1, none⟩ = some (.int .i64 0) := E1.out.cell rfl
   have z0 := E0.out.frozen 0
   have z1 := E0.out.frozen 1
   have z2 := E1.out.frozen 0
   have z3 := E1.out.frozen 1
   cases r with
   | false =>
    have Hno : Hid (¬ (getP rl log sec k f).Ok 8000 10) := fun h => by simpa using hr.2 h
    clear hr
    go_wp2
    refine bodyPost_ret (v := .tuple #[.agg #[.slice none 0 0, .slice none 0 0], .agg #[.int .i64 2, .int .i64 0]]) (by simp [results, Try.results19, go_sem, *]) rfl ?_
    refine ⟨?_, .inr ⟨Hno.out, rfl⟩⟩
    exact (((Hm1.out.setCell (by show w.heap.size ≤ _; simp) _).setCell (by show w.heap.size ≤ _; simp) _).setCell (by show w.heap.size ≤ _; simp) _).setCell (by show w.heap.size ≤ _; simp) _
   | true =>
    have Hok : Hid ((getP rl log sec k f).Ok 8000 10) := hr.1 rfl
    clear hr
    go_wp2
    refine bodyPost_ret (v := .tuple #[.agg #[.slice ra rl rc, .slice va k vc], .agg #[.int .i64 0, .int .i64 0]]) (by simp [results, Try.results19, go_sem, *]) rfl ?_
    have hm : More w ((((w1.setCell ⟨w.heap.size, 0, none⟩ (.slice ra rl rc)).setCell ⟨w.heap.size, 1, none⟩ (.slice va k vc)).setCell ⟨w.heap.size + 1, 0, none⟩ (.int .i64 0)).setCell ⟨w.heap.size + 1, 1, none⟩ (.int .i64 0)) :=
     (((Hm1.out.setCell (by show w.heap.size ≤ _; simp) _).setCell (by show w.heap.size ≤ _; simp) _).setCell (by show w.heap.size ≤ _; simp) _).setCell (by show w.heap.size ≤ _; simp) _
    refine ⟨hm, .inl ⟨Hok.out, ⟨ra, rb, ro, rc, va, g, 0, vc⟩, ⟨H.out.1, Hin1.out.hc, H.out.2.1.more hm, ?_⟩, rfl⟩⟩
    by_cases h0 : 0 < k
    ·have hg := Hin.out.2 h0
     exact (((Hin1.out.code.other (b' := w.heap.size) (by show _ ≠ g; omega) _ _).other (b' := w.heap.size) (by show _ ≠ g; omega) _ _).other (b' := w.heap.size + 1) (by show _ ≠ g; omega) _ _).other (b' := w.heap.size + 1) (by show _ ≠ g; omega) _ _
    ·exact fun i hi => absurd hi (by show ¬ i < k; omega)
  | succ g =>
   have hk : k < n := by omega
   have hki : (k : Int) < n := by omega
   have hk63 : wrap64 ((k : Int) + 1) = (k : Int) + 1 := by unfold wrap64; omega
   obtain rfl := H.out.2.2.1 (by omega)
   have q0 := (H.out.2.2.2.1.more Hr.out.more) k hk
   have hu := H.out.2.2.2.2 k hk
   have HL : Hid (insL f (k + 1) = insL f k ++ [decW (f k)]) := insL_next f k
   obtain ⟨u, Hu⟩ : ∃ x, Hid (f k = x) := ⟨_, rfl⟩
   rw [Hu.out] at q0 hu HL
   unfold W32 at hu
   obtain ⟨u0, u1⟩ := hu
   by_cases h8 : 8192 ≤ u % 16384
   ·have hd : decide (8192 ≤ u % 16384) = true := by simp [h8]
    obtain ⟨W2, HW2⟩ : ∃ w_ : World, Hid (w_ = (wr.alloc (.cells #[.int .i64 (u / 16384 / 16 / 16 / 16), .int .i64 (u / 16384 / 16 / 16 % 16), .int .i64 (u / 16384 / 16 % 16), .int .i64 (u / 16384 % 16), .int .i64 (u % 16384 - 16384)] 55)).alloc (.cells #[.int .i64 (u / 16384 / 16 / 16 / 16), .int .i64 (u / 16384 / 16 / 16 % 16), .int .i64 (u / 16384 / 16 % 16), .int .i64 (u / 16384 % 16), .int .i64 (u % 16384 - 16384)] 55)) := ⟨_, rfl⟩
    have Hm2 : Hid (More wr W2) := by rw [HW2.out]; exact ((More.refl _).alloc _ _).alloc _ _
    have Hown : Hid (W2.ownsRow (w.heap.size + 3) 55 5 (.slice va k vc) k (flatI (insL f k))) := by
     refine World.ownsRow.kept Hr.out.own (Hm2.out.grow none) ?_
     cases (Value.slice va k vc).ownBlock with
     | none => left; rfl
     | some b => right; simp
    have Hnews : Hid (∀ j v, (flatI [decW u])[j]? = some v → W2.cell? ((⟨wr.heap.size + 1, 0, none⟩ : Addr).add j) = some v) := by
     have hb : Blk W2 (wr.heap.size + 1) #[.int .i64 (u / 16384 / 16 / 16 / 16), .int .i64 (u / 16384 / 16 / 16 % 16), .int .i64 (u / 16384 / 16 % 16), .int .i64 (u / 16384 % 16), .int .i64 (u % 16384 - 16384)] 55 := by
      rw [HW2.out]
      simpa using Blk.last (wr.alloc (.cells #[.int .i64 (u / 16384 / 16 / 16 / 16), .int .i64 (u / 16384 / 16 / 16 % 16), .int .i64 (u / 16384 / 16 % 16), .int .i64 (u / 16384 % 16), .int .i64 (u % 16384 - 16384)] 55)) #[.int .i64 (u / 16384 / 16 / 16 / 16), .int .i64 (u / 16384 / 16 / 16 % 16), .int .i64 (u / 16384 / 16 % 16), .int .i64 (u / 16384 % 16), .int .i64 (u % 16384 - 16384)] 55
     refine NewsAt.of hb ?_
     unfold decW
     rw [if_pos h8]
     rfl
    have Hsz : Hid (w.heap.size + 3 ≤ W2.heap.size) := by have := Hm2.out.size; show _ ≤ _; omega
    have Hst : Hid (∀ (w3 w4 : World) (g3 c3 : Nat), W2.grownBy w3 (Value.slice va k vc).ownBlock → w3.ownsRow (w.heap.size + 3) 55 5 (.slice (some ⟨g3, 0, none⟩) (k + 1) c3) (k + 1) (flatI (insL f (k + 1))) → w4 = w3.setCell ⟨w.heap.size + 2, 1, none⟩ (.slice (some ⟨g3, 0, none⟩) (k + 1) c3) → G8 w (.slice ra rl rc) f (k + 1) (.slice (some ⟨g3, 0, none⟩) (k + 1) c3) w4) := fun w3 w4 g3 c3 g2 own e => Hr.out.step Hm2.out g2 own e
    have Hp2 : Hid (Blk W2 (w.heap.size + 2) #[.slice ra rl rc, .slice va k vc] 25 ∧ ∀ b, (Value.slice va k vc).ownBlock = some b → w.heap.size + 3 ≤ b) := ⟨Hr.out.prg.more Hm2.out, fun b hb => (Hr.out.own.lt b hb).1⟩
    go_wp2_with (at_builtin; rw [← HW2.out]; refine wpList_append_lies _ rfl (.tmp 53) (.tmp 55) 23 rfl (w.heap.size + 3) 55 i0 (.agg #[.int .i64 0, .int .i64 0, .int .i64 0, .int .i64 0, .int .i64 0]) 5 40 Try.underlying23 Hi.out.1 Hi.out.2.1 Hi.out.2.2.1 Hi.out.2.2.2 rfl (by decide) (.slice va k vc) k (flatI (insL f k)) rfl Hown.out ⟨wr.heap.size + 1, 0, none⟩ 1 1 (flatI [decW u]) rfl (by rw [flatI_length]; rfl) Hnews.out (flatI_one _) (by decide) (by unfold maxLen; omega) (by omega) Hsz.out _ rfl ?_; intro g3 cap3 w3 own3 gr3 hat3 hlt3; have B3 : Blk w3 (w.heap.size + 2) #[.slice ra rl rc, .slice va k vc] 25 := (gr3.block _ Hp2.out.1.lt (fun e => by have := Hp2.out.2 _ e.symm; omega)).trans Hp2.out.1; have x1 := B3.cell (j := 1) rfl; have x2 := B3.frozen 1)
    have Hr3 : Hid (G8 w (.slice ra rl rc) f (k + 1) (.slice (some ⟨g3, 0, none⟩) (k + 1) cap3) (w3.setCell ⟨w.heap.size + 2, 1, none⟩ (.slice (some ⟨g3, 0, none⟩) (k + 1) cap3))) := by
     rw [← flatI_append, ← HL.out] at own3
     exact Hst.out _ _ _ _ gr3 own3 rfl
    go_roundg g
    case measure => omega
    case rel => exact ⟨k + 1, _, cap3, by omega, by first | rfl | simp, Hr3.out⟩
   ·have hd : decide (8192 ≤ u % 16384) = false := by simp; omega
    obtain ⟨W2, HW2⟩ : ∃ w_ : World, Hid (w_ = (wr.alloc (.cells #[.int .i64 (u / 16384 / 16 / 16 / 16), .int .i64 (u / 16384 / 16 / 16 % 16), .int .i64 (u / 16384 / 16 % 16), .int .i64 (u / 16384 % 16), .int .i64 (u % 16384)] 55)).alloc (.cells #[.int .i64 (u / 16384 / 16 / 16 / 16), .int .i64 (u / 16384 / 16 / 16 % 16), .int .i64 (u / 16384 / 16 % 16), .int .i64 (u / 16384 % 16), .int .i64 (u % 16384)] 55)) := ⟨_, rfl⟩
    have Hm2 : Hid (More wr W2) := by rw [HW2.out]; exact ((More.refl _).alloc _ _).alloc _ _
    have Hown : Hid (W2.ownsRow (w.heap.size + 3) 55 5 (.slice va k vc) k (flatI (insL f k))) := by
     refine World.ownsRow.kept Hr.out.own (Hm2.out.grow none) ?_
     cases (Value.slice va k vc).ownBlock with
     | none => left; rfl
     | some b => right; simp
    have Hnews : Hid (∀ j v, (flatI [decW u])[j]? = some v → W2.cell? ((⟨wr.heap.size + 1, 0, none⟩ : Addr).add j) = some v) := by
     have hb : Blk W2 (wr.heap.size + 1) #[.int .i64 (u / 16384 / 16 / 16 / 16), .int .i64 (u / 16384 / 16 / 16 % 16), .int .i64 (u / 16384 / 16 % 16), .int .i64 (u / 16384 % 16), .int .i64 (u % 16384)] 55 := by
      rw [HW2.out]
      simpa using Blk.last (wr.alloc (.cells #[.int .i64 (u / 16384 / 16 / 16 / 16), .int .i64 (u / 16384 / 16 / 16 % 16), .int .i64 (u / 16384 / 16 % 16), .int .i64 (u / 16384 % 16), .int .i64 (u % 16384)] 55)) #[.int .i64 (u / 16384 / 16 / 16 / 16), .int .i64 (u / 16384 / 16 / 16 % 16), .int .i64 (u / 16384 / 16 % 16), .int .i64 (u / 16384 % 16), .int .i64 (u % 16384)] 55
     refine NewsAt.of hb ?_
     unfold decW
     rw [if_neg h8]
     rfl
    have Hsz : Hid (w.heap.size + 3 ≤ W2.heap.size) := by have := Hm2.out.size; show _ ≤ _; omega
    have Hst : Hid (∀ (w3 w4 : World) (g3 c3 : Nat), W2.grownBy w3 (Value.slice va k vc).ownBlock → w3.ownsRow (w.heap.size + 3) 55 5 (.slice (some ⟨g3, 0, none⟩) (k + 1) c3) (k + 1) (flatI (insL f (k + 1))) → w4 = w3.setCell ⟨w.heap.size + 2, 1, none⟩ (.slice (some ⟨g3, 0, none⟩) (k + 1) c3) → G8 w (.slice ra rl rc) f (k + 1) (.slice (some ⟨g3, 0, none⟩) (k + 1) c3) w4) := fun w3 w4 g3 c3 g2 own e => Hr.out.step Hm2.out g2 own e
    have Hp2 : Hid (Blk W2 (w.heap.size + 2) #[.slice ra rl rc, .slice va k vc] 25 ∧ ∀ b, (Value.slice va k vc).ownBlock = some b → w.heap.size + 3 ≤ b) := ⟨Hr.out.prg.more Hm2.out, fun b hb => (Hr.out.own.lt b hb).1⟩
    go_wp2_with (at_builtin; rw [← HW2.out]; refine wpList_append_lies _ rfl (.tmp 53) (.tmp 55) 23 rfl (w.heap.size + 3) 55 i0 (.agg #[.int .i64 0, .int .i64 0, .int .i64 0, .int .i64 0, .int .i64 0]) 5 40 Try.underlying23 Hi.out.1 Hi.out.2.1 Hi.out.2.2.1 Hi.out.2.2.2 rfl (by decide) (.slice va k vc) k (flatI (insL f k)) rfl Hown.out ⟨wr.heap.size + 1, 0, none⟩ 1 1 (flatI [decW u]) rfl (by rw [flatI_length]; rfl) Hnews.out (flatI_one _) (by decide) (by unfold maxLen; omega) (by omega) Hsz.out _ rfl ?_; intro g3 cap3 w3 own3 gr3 hat3 hlt3; have B3 : Blk w3 (w.heap.size + 2) #[.slice ra rl rc, .slice va k vc] 25 := (gr3.block _ Hp2.out.1.lt (fun e => by have := Hp2.out.2 _ e.symm; omega)).trans Hp2.out.1; have x1 := B3.cell (j := 1) rfl; have x2 := B3.frozen 1)
    have Hr3 : Hid (G8 w (.slice ra rl rc) f (k + 1) (.slice (some ⟨g3, 0, none⟩) (k + 1) cap3) (w3.setCell ⟨w.heap.size + 2, 1, none⟩ (.slice (some ⟨g3, 0, none⟩) (k + 1) cap3))) := by
     rw [← flatI_append, ← HL.out] at own3
     exact Hst.out _ _ _ _ gr3 own3 rfl
    go_roundg g
    case measure => omega
    case rel => exact ⟨k + 1, _, cap3, by omega, by first | rfl | simp, Hr3.out⟩
/-- What a call leaves alone that lays instructions: all but the loader, and the row that they lie in. -/
structure Kp (Lb : Nat) (ob ob' : Option Nat) (w w' : World) : Prop where
 os : w'.os = w.os
 tape : w'.tape = w.tape
 output : w'.output = w.output
 size : w.heap.size ≤ w'.heap.size
 block : ∀ b, b < w.heap.size → b ≠ Lb → some b ≠ ob → w'.heap[b]? = w.heap[b]?
 own : ob' = ob ∨ ∃ b, ob' = some b ∧ w.heap.size ≤ b
theorem Kp.of {Lb : Nat} {ob : Option Nat} {w w' : World} (m : More w w') : Kp Lb ob ob w w' := ⟨m.os, m.tape, m.output, m.size, fun b h _ _ => m.block b h, .inl rfl⟩
theorem Kp.trans {Lb : Nat} {o1 o2 o3 : Option Nat} {a b c : World} (h : Kp Lb o1 o2 a b) (k : Kp Lb o2 o3 b c) : Kp Lb o1 o3 a c := by
 refine ⟨k.os.trans h.os, k.tape.trans h.tape, k.output.trans h.output, Nat.le_trans h.size k.size, fun x hx h1 h2 => (k.block x (Nat.lt_of_lt_of_le hx h.size) h1 ?_).trans (h.block x hx h1 h2), ?_⟩
 ·rcases h.own with e | ⟨y, e, hy⟩
  ·rw [e]; exact h2
  ·rw [e]; intro q; cases q; omega
 ·rcases k.own with e | ⟨y, e, hy⟩
  ·rw [e]; exact h.own
  ·exact .inr ⟨y, e, Nat.le_trans h.size hy⟩
theorem Kp.blk {Lb : Nat} {ob ob' : Option Nat} {w w' : World} (h : Kp Lb ob ob' w w') {b : Nat} {cs : Array Value} {T : TypeId} (k : Blk w b cs T) (h1 : b ≠ Lb) (h2 : some b ≠ ob) : Blk w' b cs T := (h.block b k.lt h1 h2).trans k
theorem Kp.more {Lb : Nat} {ob ob' : Option Nat} {w0 w w' : World} (h : Kp Lb ob ob' w w') (m : More w0 w) (h1 : w0.heap.size ≤ Lb) (h2 : ∀ b, ob = some b → w0.heap.size ≤ b) : More w0 w' :=
 ⟨h.os.trans m.os, h.tape.trans m.tape, h.output.trans m.output, Nat.le_trans m.size h.size, fun b hb => (h.block b (Nat.lt_of_lt_of_le hb m.size) (by omega) (fun e => by have := h2 b e.symm; omega)).trans (m.block b hb)⟩

/-- A loader: its program's two slices, and what is laid. -/
def Ld (w : World) (Lb : Nat) (rv cv : Value) (lo : Nat) (L : List Ins) (ob : Option Nat) : Prop :=
 Lb < lo ∧ ∃ va vc, Blk w Lb #[rv, cv, .slice va L.length vc] 47 ∧ w.ownsRow lo 55 5 (.slice va L.length vc) L.length (flatI L) ∧ (Value.slice va L.length vc).ownBlock = ob
theorem Ld.lo {w : World} {Lb : Nat} {rv cv : Value} {lo : Nat} {L : List Ins} {ob : Option Nat} (h : Ld w Lb rv cv lo L ob) : ∀ b, ob = some b → lo ≤ b ∧ b < w.heap.size := by
 obtain ⟨_, va, vc, _, h2, rfl⟩ := h
 exact fun b hb => h2.lt b hb
theorem Ld.more {w w' : World} {Lb : Nat} {rv cv : Value} {lo : Nat} {L : List Ins} {ob : Option Nat} (h : Ld w Lb rv cv lo L ob) (m : More w w') : Ld w' Lb rv cv lo L ob := by
 obtain ⟨h0, va, vc, h1, h2, h3⟩ := h
 exact ⟨h0, va, vc, h1.more m, World.ownsRow.kept h2 (m.grow none) (by cases (Value.slice va L.length vc).ownBlock <;> simp), h3⟩
/-- Some are laid more. -/
def Lw (Lb : Nat) (rv cv : Value) (lo : Nat) (L X : List Ins) (ob : Option Nat) (w w' : World) : Prop := ∃ ob', Ld w' Lb rv cv lo (L ++ X) ob' ∧ Kp Lb ob ob' w w'
/-- What is told by a call that lays some. -/
def Laid (Lb : Nat) (rv cv : Value) (lo : Nat) (L X : List Ins) (ob : Option Nat) (w : World) (e : Ending) (w' : World) : Prop := e = .returned (.tuple #[]) ∧ Lw Lb rv cv lo L X ob w w'
theorem Ld.start {w : World} {Lb : Nat} {rv cv : Value} {lo : Nat} {L : List Ins} {ob : Option Nat} (h : Ld w Lb rv cv lo L ob) : Lw Lb rv cv lo L [] ob w w := ⟨ob, by rw [List.append_nil]; exact h, Kp.of (More.refl _)⟩
theorem Lw.more {w w1 w2 : World} {Lb : Nat} {rv cv : Value} {lo : Nat} {L X : List Ins} {ob : Option Nat} (h : Lw Lb rv cv lo L X ob w w1) (m : More w1 w2) : Lw Lb rv cv lo L X ob w w2 := by
 obtain ⟨o, h1, h2⟩ := h
 exact ⟨o, h1.more m, h2.trans (Kp.of m)⟩
theorem Lw.size {w w1 : World} {Lb : Nat} {rv cv : Value} {lo : Nat} {L X : List Ins} {ob : Option Nat} (h : Lw Lb rv cv lo L X ob w w1) : w.heap.size ≤ w1.heap.size := by
 obtain ⟨o, h1, h2⟩ := h
 exact h2.size
/-- A call within one. -/
theorem Lw.call {F : Nat} {args : Array Value} {w w1 : World} {Lb : Nat} {rv cv : Value} {lo : Nat} {L X Y : List Ins} {ob : Option Nat} (h : Lw Lb rv cv lo L X ob w w1) (c : ∀ ob1, Ld w1 Lb rv cv lo (L ++ X) ob1 → Calls Try.prog F args w1 (Laid Lb rv cv lo (L ++ X) Y ob1 w1)) : Calls Try.prog F args w1 (Laid Lb rv cv lo L (X ++ Y) ob w) := by
 obtain ⟨o, h1, h2⟩ := h
 refine (c o h1).mono ?_
 rintro e w' ⟨he, o', h3, h4⟩
 exact ⟨he, o', by rw [← List.append_assoc]; exact h3, h2.trans h4⟩

theorem info55 : (Try.prog.info? 55).map (fun i => (i.zero, i.size, i.bytes)) = some (some (.agg #[.int .i64 0, .int .i64 0, .int .i64 0, .int .i64 0, .int .i64 0]), 5, 40) := by kernel_rfl

set_option maxHeartbeats 1000000 in
theorem lay_calls (Lb : Nat) (rv cv : Value) (lo : Nat) (L X : List Ins) (ob : Option Nat) (w : World) (h : Ld w Lb rv cv lo L ob) (hlo : lo ≤ w.heap.size) (g m : Nat) (hm : X.length = m) (h1 : 1 ≤ m) (h2 : m ≤ 2) (hL : L.length ≤ 9000) (hX : NewsAt w g X) :
  Calls Try.prog 53 #[.pointer (some ⟨Lb, 0, none⟩), .slice (some ⟨g, 0, none⟩) m m] w (Laid Lb rv cv lo L X ob w) := by
 obtain ⟨hlt, va, vc, hB, hO, hob⟩ := h
 obtain ⟨i0, hi, hz0, hz1, hz2⟩ := info_parts info55
 have Hi : Hid (Try.prog.info? 55 = some i0 ∧ i0.zero = some (.agg #[.int .i64 0, .int .i64 0, .int .i64 0, .int .i64 0, .int .i64 0]) ∧ i0.size = 5 ∧ i0.bytes = 40) := ⟨hi, hz0, hz1, hz2⟩
 have hc : w.cell? ⟨Lb, 2, none⟩ = some (.slice va L.length vc) := hB.cell rfl
 have HB : Hid (Blk w Lb #[rv, cv, .slice va L.length vc] 47) := hB
 obtain ⟨n, Hn⟩ : ∃ x, Hid (L.length = x) := ⟨_, rfl⟩
 rw [Hn.out] at hO hc hob HB hL
 have HO : Hid (w.ownsRow lo 55 5 (.slice va n vc) n (flatI L)) := hO
 have HX : Hid (NewsAt w g X ∧ X.length = m) := ⟨hX, hm⟩
 have Hob : Hid ((Value.slice va n vc).ownBlock = ob) := hob
 have hne : ∀ b, (Value.slice va n vc).ownBlock = some b → lo ≤ b := fun b hb => (hO.lt b hb).1
 have Hne : Hid (∀ b, (Value.slice va n vc).ownBlock = some b → lo ≤ b) := hne
 clear hi hz0 hz1 hz2 hB hO hX hm hob hne
 go_enter Try.func53, Try.ntmps53
 go_wp2_with (at_builtin; refine wpList_append_lies _ rfl (.tmp 8) (.tmp 9) 23 rfl lo 55 i0 (.agg #[.int .i64 0, .int .i64 0, .int .i64 0, .int .i64 0, .int .i64 0]) 5 40 Try.underlying23 Hi.out.1 Hi.out.2.1 Hi.out.2.2.1 Hi.out.2.2.2 rfl (by decide) (.slice va n vc) n (flatI L) rfl HO.out ⟨g, 0, none⟩ m m (flatI X) rfl (by rw [flatI_length, HX.out.2]) HX.out.1 (flatI_one X) (by omega) (by unfold maxLen; omega) (by omega) hlo w.heap.size rfl ?_; intro g3 cap3 w3 own3 gr3 hat3 hlt3; have HB3 : Hid (Blk w3 Lb #[rv, cv, .slice va n vc] 47) := (gr3.block _ HB.out.lt (fun e => by have := Hne.out _ e.symm; omega)).trans HB.out; have c3 : w3.cell? ⟨Lb, 2, none⟩ = some (.slice va n vc) := HB3.out.cell rfl; have f3 := HB3.out.frozen 2)
 go_end0
 have hg := (own3.lt g3 rfl).1
 have hl : (L ++ X).length = n + m := by rw [List.length_append, Hn.out, HX.out.2]
 refine ⟨rfl, some g3, ⟨hlt, some ⟨g3, 0, none⟩, cap3, ?_, ?_, ?_⟩, gr3.os, gr3.tape, gr3.output, ?_, fun b hb h1 h2 => ?_, ?_⟩
 ·have := HB3.out.put 2 (.slice (some ⟨g3, 0, none⟩) (n + m) cap3)
  rw [hl]
  simpa using this
 ·rw [hl, flatI_append]
  exact World.ownsRow.kept own3 (grown_set _ _ _ _) (.inr (by simp [Value.ownBlock]; omega))
 ·rfl
 ·simpa [World.setCell] using gr3.size
 ·have h3 : (w3.setCell ⟨Lb, 2, none⟩ (.slice (some ⟨g3, 0, none⟩) (n + m) cap3)).heap[b]? = w3.heap[b]? := by
   simp [World.setCell, Array.getElem?_modify, h1.symm]
  rw [h3]
  exact gr3.block b hb (by rw [Hob.out]; exact h2)
 ·rcases hat3 with e | e
  ·left; rw [← Hob.out, e]
  ·exact .inr ⟨g3, rfl, by omega⟩

/-- What was just made is laid. -/
theorem lay_new {Lb : Nat} {rv cv : Value} {lo : Nat} {L X : List Ins} {ob : Option Nat} {w w1 : World} (h : Lw Lb rv cv lo L X ob w w1) (hlo : lo ≤ w.heap.size) (Y : List Ins) (m : Nat) (cs : Array Value) (hY : cs.toList = flatI Y) (hm : Y.length = m) (h1 : 1 ≤ m) (h2 : m ≤ 2) (hL : (L ++ X).length ≤ 9000) :
  Calls Try.prog 53 #[.pointer (some ⟨Lb, 0, none⟩), .slice (some ⟨w1.heap.size, 0, none⟩) m m] (w1.alloc (.cells cs 55)) (Laid Lb rv cv lo L (X ++ Y) ob w) := by
 have m1 := (More.refl w1).alloc cs 55
 exact (h.more m1).call fun o h3 => lay_calls Lb rv cv lo _ Y o _ h3 (Nat.le_trans hlo (Nat.le_trans h.size m1.size)) _ m hm h1 h2 hL (NewsAt.of (Blk.last _ _ _) hY)

theorem fits_calls (n : Int) (w : World) : Calls Try.prog 51 #[.int .i64 n] w fun e w' => e = .returned (.bool (decide (N14 n))) ∧ More w w' := by
 by_cases h1 : -8192 ≤ n
 ·have d1 : decide (n ≥ -8192) = true := by simp; omega
  have e : decide (N14 n) = decide (n ≤ 8191) := by unfold N14; simp [h1]
  rw [e]
  go_enter Try.func51, Try.ntmps51
  go_wp2
  go_ret
  exact ⟨rfl, More.refl _⟩
 ·have d1 : decide (n ≥ -8192) = false := by simp; omega
  have e : decide (N14 n) = false := by unfold N14; simp [h1]
  rw [e]
  go_enter Try.func51, Try.ntmps51
  go_wp2
  go_ret
  exact ⟨rfl, More.refl _⟩

theorem and13 (n : Int) : bits .and .i64 n 8191 = n % 8192 := by
 have e : (BitVec.ofInt 64 n &&& BitVec.ofInt 64 8191).toNat = (n % ((2 ^ 64 : Nat) : Int)).toNat % 2 ^ 13 := by
  rw [BitVec.toNat_and, BitVec.toNat_ofInt, show (BitVec.ofInt 64 8191).toNat = 2 ^ 13 - 1 by decide, Nat.and_two_pow_sub_one_eq_mod]
 show IntKind.i64.wrap ((BitVec.ofInt 64 n &&& BitVec.ofInt 64 8191).toNat : Nat) = _
 rw [e, IntKind.wrap_i64]
 omega
theorem pieceL_one {n : Int} (h : N14 n) (a : Int) (f : Nat) : pieceL a f n = [⟨1, a, 0, 0, n⟩] := by
 cases f with
 | zero => rfl
 | succ f => unfold pieceL; rw [if_pos h]

set_option maxHeartbeats 2000000 in
theorem piece1_calls (Lb : Nat) (rv cv : Value) (lo : Nat) (a : Int) (f : Nat) (n : Int) (L : List Ins) (ob : Option Nat) (w : World) (h : Ld w Lb rv cv lo L ob) (hlo : lo ≤ w.heap.size) (hL : L.length + 1 + 2 * f ≤ 9000) (h14 : N14 n) :
  Calls Try.prog 68 #[.pointer (some ⟨Lb, 0, none⟩), .int .i64 a, .int .i64 n] w (Laid Lb rv cv lo L (pieceL a f n) ob w) := by
 rw [pieceL_one h14]
 have CF : Hid (Calls Try.prog 51 #[.int .i64 n] w fun e w' => e = .returned (.bool true) ∧ More w w') := by
  have := fits_calls n w
  rw [show decide (N14 n) = true by simp [h14]] at this
  exact this
 have HK : Hid (∀ w1 : World, More w w1 → Calls Try.prog 53 #[.pointer (some ⟨Lb, 0, none⟩), .slice (some ⟨w1.heap.size, 0, none⟩) 1 1] (w1.alloc (.cells #[.int .i64 1, .int .i64 a, .int .i64 0, .int .i64 0, .int .i64 n] 55)) (Laid Lb rv cv lo L [⟨1, a, 0, 0, n⟩] ob w)) := fun w1 m1 =>
  lay_new (h.start.more m1) hlo [⟨1, a, 0, 0, n⟩] 1 _ rfl rfl (by omega) (by omega) (by rw [List.append_nil]; omega)
 clear h hL h14 hlo
 go_enter Try.func68, Try.ntmps68
 go_wp2_with (fail)
 refine CF.out.mono ?_
 rintro e w1 ⟨rfl, m1⟩
 have HK1 := HK.out w1 m1
 go_wp2_with (fail)
 refine HK1.mono ?_
 rintro e w3 ⟨rfl, hw3⟩
 have Hw3 : Hid (Lw Lb rv cv lo L [⟨1, a, 0, 0, n⟩] ob w w3) := hw3
 clear hw3
 go_wp2
 go_end0
 exact ⟨rfl, Hw3.out⟩

set_option maxHeartbeats 2000000 in
theorem pieces_calls (Lb : Nat) (rv cv : Value) (lo : Nat) (a : Int) : ∀ (f : Nat) (n : Int) (L : List Ins) (ob : Option Nat) (w : World), Ld w Lb rv cv lo L ob → lo ≤ w.heap.size → L.length + 1 + 2 * f ≤ 9000 → B64 n → -lim f ≤ n → n < lim f →
  Calls Try.prog 68 #[.pointer (some ⟨Lb, 0, none⟩), .int .i64 a, .int .i64 n] w (Laid Lb rv cv lo L (pieceL a f n) ob w) := by
 intro f
 induction f with
 | zero =>
  intro n L ob w h hlo hL hn l1 l2
  have h14 : N14 n := by simp only [lim] at l1 l2; unfold N14; omega
  exact piece1_calls Lb rv cv lo a 0 n L ob w h hlo hL h14
 | succ f ih =>
  intro n L ob w h hlo hL hn l1 l2
  by_cases h14 : N14 n
  ·exact piece1_calls Lb rv cv lo a (f + 1) n L ob w h hlo hL h14
  ·have CF : Hid (Calls Try.prog 51 #[.int .i64 n] w fun e w' => e = .returned (.bool false) ∧ More w w') := by
    have := fits_calls n w
    rw [show decide (N14 n) = false by simp [h14]] at this
    exact this
   have eL : pieceL a (f + 1) n = pieceL a f (n / 8192) ++ [⟨27, a, a, 9, 0⟩, ⟨10, a, a, 0, n % 8192⟩] := by rw [pieceL, if_neg h14]
   rw [eL]
   have HR : Hid (∀ w1 : World, More w w1 → Calls Try.prog 68 #[.pointer (some ⟨Lb, 0, none⟩), .int .i64 a, .int .i64 (n / 8192)] w1 (Laid Lb rv cv lo L ([] ++ pieceL a f (n / 8192)) ob w)) := fun w1 m1 =>
    (h.start.more m1).call fun o h3 => ih _ _ _ _ h3 (Nat.le_trans hlo m1.size) (by rw [List.append_nil]; omega) (by unfold B64 at *; omega) (by simp only [lim] at l1; omega) (by simp only [lim] at l2; omega)
   have HL2 : Hid (∀ w1 : World, Lw Lb rv cv lo L (pieceL a f (n / 8192)) ob w w1 → Calls Try.prog 53 #[.pointer (some ⟨Lb, 0, none⟩), .slice (some ⟨w1.heap.size, 0, none⟩) 2 2] (w1.alloc (.cells #[.int .i64 27, .int .i64 a, .int .i64 a, .int .i64 9, .int .i64 0, .int .i64 10, .int .i64 a, .int .i64 a, .int .i64 0, .int .i64 (n % 8192)] 55)) (Laid Lb rv cv lo L (pieceL a f (n / 8192) ++ [⟨27, a, a, 9, 0⟩, ⟨10, a, a, 0, n % 8192⟩]) ob w)) := fun w1 h1 =>
    lay_new h1 hlo [⟨27, a, a, 9, 0⟩, ⟨10, a, a, 0, n % 8192⟩] 2 _ rfl rfl (by omega) (by omega) (by have := (piece_len a f (n / 8192)).2; rw [List.length_append]; omega)
   clear h hL hlo l1 l2 ih eL h14
   go_enter Try.func68, Try.ntmps68
   go_wp2_with (fail)
   refine CF.out.mono ?_
   rintro e w1 ⟨rfl, m1⟩
   have HR1 := HR.out w1 m1
   go_wp2_with (fail)
   refine HR1.mono ?_
   rintro e w2 ⟨rfl, hw2⟩
   have HL3 := HL2.out w2 hw2
   go_wp2_with (fail)
   rw [and13]
   refine HL3.mono ?_
   rintro e w3 ⟨rfl, hw3⟩
   have Hw3 : Hid (Lw Lb rv cv lo L (pieceL a f (n / 8192) ++ [⟨27, a, a, 9, 0⟩, ⟨10, a, a, 0, n % 8192⟩]) ob w w3) := hw3
   clear hw3 hw2
   go_wp2
   go_end0
   exact ⟨rfl, Hw3.out⟩

theorem number_calls (Lb : Nat) (rv cv : Value) (lo : Nat) (a n : Int) (L : List Ins) (ob : Option Nat) (w : World) (h : Ld w Lb rv cv lo L ob) (hlo : lo ≤ w.heap.size) (hL : L.length ≤ 8900) (hn : B64 n) :
  Calls Try.prog 52 #[.pointer (some ⟨Lb, 0, none⟩), .int .i64 a, .int .i64 n] w (Laid Lb rv cv lo L (numL a n) ob w) := by
 have HK : Hid (Calls Try.prog 53 #[.pointer (some ⟨Lb, 0, none⟩), .slice (some ⟨w.heap.size, 0, none⟩) 1 1] (w.alloc (.cells #[.int .i64 1, .int .i64 9, .int .i64 0, .int .i64 0, .int .i64 13] 55)) (Laid Lb rv cv lo L [⟨1, 9, 0, 0, 13⟩] ob w)) :=
  lay_new h.start hlo [⟨1, 9, 0, 0, 13⟩] 1 _ rfl rfl (by omega) (by omega) (by rw [List.append_nil]; omega)
 have HP : Hid (∀ w1 : World, Lw Lb rv cv lo L [⟨1, 9, 0, 0, 13⟩] ob w w1 → Calls Try.prog 68 #[.pointer (some ⟨Lb, 0, none⟩), .int .i64 a, .int .i64 n] w1 (Laid Lb rv cv lo L ([⟨1, 9, 0, 0, 13⟩] ++ pieceL a 4 n) ob w)) := fun w1 h1 =>
  h1.call fun o h3 => pieces_calls Lb rv cv lo a 4 n _ o w1 h3 (Nat.le_trans hlo h1.size) (by rw [List.length_append]; simp; omega) hn (lim4 hn).1 (lim4 hn).2
 clear h hL hn hlo
 go_enter Try.func52, Try.ntmps52
 go_wp2_with (fail)
 refine HK.out.mono ?_
 rintro e w1 ⟨rfl, h1⟩
 have HP1 := HP.out w1 h1
 clear h1
 go_wp2_with (fail)
 refine HP1.mono ?_
 rintro e w2 ⟨rfl, h2⟩
 have H2 : Hid (Lw Lb rv cv lo L (numL a n) ob w w2) := h2
 clear h2
 go_wp2
 go_end0
 exact ⟨rfl, H2.out⟩

set_option maxHeartbeats 2000000 in
theorem fitting1_calls (Lb : Nat) (rv cv : Value) (lo : Nat) (i : Ins) (L : List Ins) (ob : Option Nat) (w : World) (h : Ld w Lb rv cv lo L ob) (hlo : lo ≤ w.heap.size) (hL : L.length ≤ 8800) (hn : B64 i.n) :
  Calls Try.prog 34 #[.pointer (some ⟨Lb, 0, none⟩), .agg #[.int .i64 i.op, .int .i64 i.a, .int .i64 i.b, .int .i64 i.c, .int .i64 i.n]] w (Laid Lb rv cv lo L (fitL i) ob w) := by
 obtain ⟨op, a, b, c, n⟩ := i
 dsimp only at hn ⊢
 have HF : Hid (∀ w1 : World, Calls Try.prog 51 #[.int .i64 n] w1 fun e w' => e = .returned (.bool (decide (N14 n))) ∧ More w1 w') := fun w1 => fits_calls n w1
 have HN : Hid (∀ a w1, More w w1 → Calls Try.prog 52 #[.pointer (some ⟨Lb, 0, none⟩), .int .i64 a, .int .i64 n] w1 (Laid Lb rv cv lo L (numL a n) ob w1)) := fun a w1 m1 => number_calls Lb rv cv lo a n _ ob w1 (h.more m1) (Nat.le_trans hlo m1.size) (by omega) hn
 have Hob : Hid (∀ x, ob = some x → x < w.heap.size) := fun x hx => (h.lo x hx).2
 have hLb : Lb < w.heap.size := by have := h.1; omega
 obtain ⟨W, HW⟩ : ∃ W : World, Hid (W = w.alloc (.cells #[.int .i64 op, .int .i64 a, .int .i64 b, .int .i64 c, .int .i64 n] 55)) := ⟨_, rfl⟩
 have HmW : Hid (More w W) := HW.out ▸ (More.refl _).alloc _ _
 have HbW : Hid (Blk W w.heap.size #[.int .i64 op, .int .i64 a, .int .i64 b, .int .i64 c, .int .i64 n] 55) := HW.out ▸ Blk.last _ _ _
 have HL1 : Hid (∀ w1 : World, More w w1 → Calls Try.prog 53 #[.pointer (some ⟨Lb, 0, none⟩), .slice (some ⟨w1.heap.size, 0, none⟩) 1 1] (w1.alloc (.cells #[.int .i64 op, .int .i64 a, .int .i64 b, .int .i64 c, .int .i64 n] 55)) (Laid Lb rv cv lo L [⟨op, a, b, c, n⟩] ob w)) := fun w1 m1 =>
  lay_new (h.start.more m1) hlo [⟨op, a, b, c, n⟩] 1 _ rfl rfl (by omega) (by omega) (by rw [List.append_nil]; omega)
 have HL2 : Hid (∀ w1 : World, Lw Lb rv cv lo L (numL 8 n) ob w w1 → Calls Try.prog 53 #[.pointer (some ⟨Lb, 0, none⟩), .slice (some ⟨w1.heap.size, 0, none⟩) 1 1] (w1.alloc (.cells #[.int .i64 21, .int .i64 a, .int .i64 b, .int .i64 8, .int .i64 0] 55)) (Laid Lb rv cv lo L (numL 8 n ++ [⟨21, a, b, 8, 0⟩]) ob w)) := fun w1 h1 =>
  lay_new h1 hlo [⟨21, a, b, 8, 0⟩] 1 _ rfl rfl (by omega) (by omega) (by have := (num_len 8 n).2; rw [List.length_append]; omega)
 have HB : Hid (∀ w1, More W w1 → Blk w1 w.heap.size #[.int .i64 op, .int .i64 a, .int .i64 b, .int .i64 c, .int .i64 n] 55) := fun w1 m1 => HbW.out.more m1
 have HB2 : Hid (∀ w1 w2, More W w1 → Lw Lb rv cv lo L (numL 8 n) ob w1 w2 → Blk w2 w.heap.size #[.int .i64 op, .int .i64 a, .int .i64 b, .int .i64 c, .int .i64 n] 55 ∧ Lw Lb rv cv lo L (numL 8 n) ob w w2) := fun w1 w2 m1 ⟨o, h1, k⟩ =>
  ⟨k.blk (HbW.out.more m1) (by omega) (by intro q; have := Hob.out _ q.symm; omega), o, h1, (Kp.of (HmW.out.trans m1)).trans k⟩
 have HK : Hid (∀ a w1 w2, More W w1 → Lw Lb rv cv lo L (numL a n) ob w1 w2 → Lw Lb rv cv lo L (numL a n) ob w w2) := fun a w1 w2 m1 ⟨o, h1, k⟩ => ⟨o, h1, (Kp.of (HmW.out.trans m1)).trans k⟩
 clear h hlo hL hLb
 by_cases h1 : op = 1
 ·subst h1
  have a0 : W.cell? ⟨w.heap.size, 0, none⟩ = some (.int .i64 1) := HbW.out.cell rfl
  have a1 : W.cell? ⟨w.heap.size, 1, none⟩ = some (.int .i64 a) := HbW.out.cell rfl
  have a2 : W.cell? ⟨w.heap.size, 2, none⟩ = some (.int .i64 b) := HbW.out.cell rfl
  have a3 : W.cell? ⟨w.heap.size, 3, none⟩ = some (.int .i64 c) := HbW.out.cell rfl
  have a4 : W.cell? ⟨w.heap.size, 4, none⟩ = some (.int .i64 n) := HbW.out.cell rfl
  by_cases h14 : N14 n
  ·rw [show fitL ⟨1, a, b, c, n⟩ = [⟨1, a, b, c, n⟩] by unfold fitL; rw [if_pos h14]]
   rw [show decide (N14 n) = true by simp [h14]] at HF
   clear h14
   go_enter Try.func34, Try.ntmps34
   go_wp2_with (fail)
   rw [← HW.out]
   refine (HF.out W).mono ?_
   rintro e w1 ⟨rfl, m1⟩
   have Hb1 : Hid (Blk w1 w.heap.size #[.int .i64 1, .int .i64 a, .int .i64 b, .int .i64 c, .int .i64 n] 55) := HB.out w1 m1
   have c0 : w1.cell? ⟨w.heap.size, 0, none⟩ = some (.int .i64 1) := Hb1.out.cell rfl
   have c1 : w1.cell? ⟨w.heap.size, 1, none⟩ = some (.int .i64 a) := Hb1.out.cell rfl
   have c2 : w1.cell? ⟨w.heap.size, 2, none⟩ = some (.int .i64 b) := Hb1.out.cell rfl
   have c3 : w1.cell? ⟨w.heap.size, 3, none⟩ = some (.int .i64 c) := Hb1.out.cell rfl
   have c4 : w1.cell? ⟨w.heap.size, 4, none⟩ = some (.int .i64 n) := Hb1.out.cell rfl
   have HL3 := HL1.out w1 (HmW.out.trans m1)
   go_wp2_with (fail)
   refine HL3.mono ?_
   rintro e w3 ⟨rfl, hw3⟩
   have Hw3 : Hid (Lw Lb rv cv lo L [⟨1, a, b, c, n⟩] ob w w3) := hw3
   clear hw3
   go_wp2
   go_end0
   exact ⟨rfl, Hw3.out⟩
  ·rw [show fitL ⟨1, a, b, c, n⟩ = numL a n by unfold fitL; rw [if_neg h14]; rfl]
   rw [show decide (N14 n) = false by simp [h14]] at HF
   clear h14
   go_enter Try.func34, Try.ntmps34
   go_wp2_with (fail)
   rw [← HW.out]
   refine (HF.out W).mono ?_
   rintro e w1 ⟨rfl, m1⟩
   have Hb1 : Hid (Blk w1 w.heap.size #[.int .i64 1, .int .i64 a, .int .i64 b, .int .i64 c, .int .i64 n] 55) := HB.out w1 m1
   have c0 : w1.cell? ⟨w.heap.size, 0, none⟩ = some (.int .i64 1) := Hb1.out.cell rfl
   have c1 : w1.cell? ⟨w.heap.size, 1, none⟩ = some (.int .i64 a) := Hb1.out.cell rfl
   have c2 : w1.cell? ⟨w.heap.size, 2, none⟩ = some (.int .i64 b) := Hb1.out.cell rfl
   have c3 : w1.cell? ⟨w.heap.size, 3, none⟩ = some (.int .i64 c) := Hb1.out.cell rfl
   have c4 : w1.cell? ⟨w.heap.size, 4, none⟩ = some (.int .i64 n) := Hb1.out.cell rfl
   have HL3 := HN.out a w1 (HmW.out.trans m1)
   go_wp2_with (fail)
   refine HL3.mono ?_
   rintro e w3 ⟨rfl, hw3⟩
   have Hw3 : Hid (Lw Lb rv cv lo L (numL a n) ob w w3) := HK.out a w1 w3 m1 hw3
   clear hw3
   go_wp2
   go_end0
   exact ⟨rfl, Hw3.out⟩
 have e1 : (op == 1) = false := by simp [h1]
 by_cases h10 : op = 10
 ·subst h10
  have a0 : W.cell? ⟨w.heap.size, 0, none⟩ = some (.int .i64 10) := HbW.out.cell rfl
  have a1 : W.cell? ⟨w.heap.size, 1, none⟩ = some (.int .i64 a) := HbW.out.cell rfl
  have a2 : W.cell? ⟨w.heap.size, 2, none⟩ = some (.int .i64 b) := HbW.out.cell rfl
  have a3 : W.cell? ⟨w.heap.size, 3, none⟩ = some (.int .i64 c) := HbW.out.cell rfl
  have a4 : W.cell? ⟨w.heap.size, 4, none⟩ = some (.int .i64 n) := HbW.out.cell rfl
  by_cases h14 : N14 n
  ·rw [show fitL ⟨10, a, b, c, n⟩ = [⟨10, a, b, c, n⟩] by unfold fitL; rw [if_pos h14]]
   rw [show decide (N14 n) = true by simp [h14]] at HF
   clear h14
   go_enter Try.func34, Try.ntmps34
   go_wp2_with (fail)
   rw [← HW.out]
   refine (HF.out W).mono ?_
   rintro e w1 ⟨rfl, m1⟩
   have Hb1 : Hid (Blk w1 w.heap.size #[.int .i64 10, .int .i64 a, .int .i64 b, .int .i64 c, .int .i64 n] 55) := HB.out w1 m1
   have c0 : w1.cell? ⟨w.heap.size, 0, none⟩ = some (.int .i64 10) := Hb1.out.cell rfl
   have c1 : w1.cell? ⟨w.heap.size, 1, none⟩ = some (.int .i64 a) := Hb1.out.cell rfl
   have c2 : w1.cell? ⟨w.heap.size, 2, none⟩ = some (.int .i64 b) := Hb1.out.cell rfl
   have c3 : w1.cell? ⟨w.heap.size, 3, none⟩ = some (.int .i64 c) := Hb1.out.cell rfl
   have c4 : w1.cell? ⟨w.heap.size, 4, none⟩ = some (.int .i64 n) := Hb1.out.cell rfl
   have HL3 := HL1.out w1 (HmW.out.trans m1)
   go_wp2_with (fail)
   refine HL3.mono ?_
   rintro e w3 ⟨rfl, hw3⟩
   have Hw3 : Hid (Lw Lb rv cv lo L [⟨10, a, b, c, n⟩] ob w w3) := hw3
   clear hw3
   go_wp2
   go_end0
   exact ⟨rfl, Hw3.out⟩
  ·rw [show fitL ⟨10, a, b, c, n⟩ = numL 8 n ++ [⟨21, a, b, 8, 0⟩] by unfold fitL; rw [if_neg h14]; rfl]
   rw [show decide (N14 n) = false by simp [h14]] at HF
   clear h14
   go_enter Try.func34, Try.ntmps34
   go_wp2_with (fail)
   rw [← HW.out]
   refine (HF.out W).mono ?_
   rintro e w1 ⟨rfl, m1⟩
   have Hb1 : Hid (Blk w1 w.heap.size #[.int .i64 10, .int .i64 a, .int .i64 b, .int .i64 c, .int .i64 n] 55) := HB.out w1 m1
   have c0 : w1.cell? ⟨w.heap.size, 0, none⟩ = some (.int .i64 10) := Hb1.out.cell rfl
   have c1 : w1.cell? ⟨w.heap.size, 1, none⟩ = some (.int .i64 a) := Hb1.out.cell rfl
   have c2 : w1.cell? ⟨w.heap.size, 2, none⟩ = some (.int .i64 b) := Hb1.out.cell rfl
   have c3 : w1.cell? ⟨w.heap.size, 3, none⟩ = some (.int .i64 c) := Hb1.out.cell rfl
   have c4 : w1.cell? ⟨w.heap.size, 4, none⟩ = some (.int .i64 n) := Hb1.out.cell rfl
   have HL4 := HN.out 8 w1 (HmW.out.trans m1)
   go_wp2_with (fail)
   refine HL4.mono ?_
   rintro e w2 ⟨rfl, hw2⟩
   obtain ⟨hb2, hw2⟩ := HB2.out w1 w2 m1 hw2
   have Hb2 : Hid (Blk w2 w.heap.size #[.int .i64 10, .int .i64 a, .int .i64 b, .int .i64 c, .int .i64 n] 55) := hb2
   have HL3 := HL2.out w2 hw2
   clear hb2 hw2 c0 c1 c2 c3 c4
   have d0 : w2.cell? ⟨w.heap.size, 0, none⟩ = some (.int .i64 10) := Hb2.out.cell rfl
   have d1 : w2.cell? ⟨w.heap.size, 1, none⟩ = some (.int .i64 a) := Hb2.out.cell rfl
   have d2 : w2.cell? ⟨w.heap.size, 2, none⟩ = some (.int .i64 b) := Hb2.out.cell rfl
   have d3 : w2.cell? ⟨w.heap.size, 3, none⟩ = some (.int .i64 c) := Hb2.out.cell rfl
   have d4 : w2.cell? ⟨w.heap.size, 4, none⟩ = some (.int .i64 n) := Hb2.out.cell rfl
   go_wp2_with (fail)
   refine HL3.mono ?_
   rintro e w3 ⟨rfl, hw3⟩
   have Hw3 : Hid (Lw Lb rv cv lo L (numL 8 n ++ [⟨21, a, b, 8, 0⟩]) ob w w3) := hw3
   clear hw3
   go_wp2
   go_end0
   exact ⟨rfl, Hw3.out⟩
 ·have e10 : (op == 10) = false := by simp [h10]
  rw [fitL_else h1 h10]
  clear h1 h10
  have a0 : W.cell? ⟨w.heap.size, 0, none⟩ = some (.int .i64 op) := HbW.out.cell rfl
  have a1 : W.cell? ⟨w.heap.size, 1, none⟩ = some (.int .i64 a) := HbW.out.cell rfl
  have a2 : W.cell? ⟨w.heap.size, 2, none⟩ = some (.int .i64 b) := HbW.out.cell rfl
  have a3 : W.cell? ⟨w.heap.size, 3, none⟩ = some (.int .i64 c) := HbW.out.cell rfl
  have a4 : W.cell? ⟨w.heap.size, 4, none⟩ = some (.int .i64 n) := HbW.out.cell rfl
  have HL3 := HL1.out W HmW.out
  rw [show W.heap.size = w.heap.size + 1 by rw [HW.out]; simp] at HL3
  clear a0 a1 a2 a3 a4
  go_enter Try.func34, Try.ntmps34
  go_wp2_with (fail)
  rw [← HW.out]
  refine HL3.mono ?_
  rintro e w3 ⟨rfl, hw3⟩
  have Hw3 : Hid (Lw Lb rv cv lo L [⟨op, a, b, c, n⟩] ob w w3) := hw3
  clear hw3
  go_wp2
  go_end0
  exact ⟨rfl, Hw3.out⟩
/-- So many instructions are laid. -/
structure F1 (w0 w : World) (q : Prg) (Lb : Nat) (rv cv : Value) (k : Nat) (ob : Option Nat) (wr : World) : Prop where
 ld : Ld wr Lb rv cv (w.heap.size + 2) (codeG fitL q.ins k) ob
 res : Blk wr w.heap.size #[.slice none 0 0, .slice none 0 0] 25
 room : ∀ j, j < q.cl → ∃ v, Wr wr (w.heap.size + 1) j v
 done : ∀ j, j < k → wr.cell? ⟨w.heap.size + 1, j, none⟩ = some (.int .i64 (startG fitL q.ins j : Nat))
 more : More w0 wr

theorem F1.start {w0 w : World} {q : Prg} {Lb : Nat} {rv cv : Value} (m : More w0 w) (hB : Blk w Lb #[rv, cv, .slice none 0 0] 47) :
  F1 w0 w q Lb rv cv 0 none ((w.alloc (.cells #[.slice none 0 0, .slice none 0 0] 25)).alloc (.cells (madeCells #[.int .i64 0] q.cl) 2)) := by
 have hb : Blk ((w.alloc (.cells #[.slice none 0 0, .slice none 0 0] 25)).alloc (.cells (madeCells #[.int .i64 0] q.cl) 2)) (w.heap.size + 1) (madeCells #[.int .i64 0] q.cl) 2 := by
  simpa using Blk.last (w.alloc (.cells #[.slice none 0 0, .slice none 0 0] 25)) (madeCells #[.int .i64 0] q.cl) 2
 have m2 := ((More.refl w).alloc #[.slice none 0 0, .slice none 0 0] 25).alloc (madeCells #[.int .i64 0] q.cl) 2
 exact ⟨⟨by have := hB.lt; omega, none, 0, hB.more m2, World.ownsRow_nil _ _ _ _, rfl⟩, (Blk.last _ _ _).more ((More.refl _).alloc _ _), fun j hj => ⟨_, hb.cell (made1_at _ _ _ hj), hb.frozen _⟩, fun j hj => absurd hj (Nat.not_lt_zero _), m.trans m2⟩

theorem F1.mid {w0 w : World} {q : Prg} {Lb : Nat} {rv cv : Value} {k : Nat} {ob : Option Nat} {wr w1 : World} (h : F1 w0 w q Lb rv cv k ob wr) (hL : Lb < w.heap.size) {v : Value}
  (m1 : More (wr.setCell ⟨w.heap.size + 1, k, none⟩ v) w1) : Ld w1 Lb rv cv (w.heap.size + 2) (codeG fitL q.ins k) ob := by
 have g1 : wr.grownBy w1 (some (w.heap.size + 1)) := gr_more (gr_set (grown_refl _ _) _ _) m1
 obtain ⟨q0, va, vc, q1, q2, q3⟩ := h.ld
 refine ⟨q0, va, vc, (g1.block _ q1.lt (by simp; omega)).trans q1, World.ownsRow.kept q2 g1 ?_, q3⟩
 cases hv : (Value.slice va (codeG fitL q.ins k).length vc).ownBlock with
 | none => left; rfl
 | some b => right; intro e; have h1 := (q2.lt b hv).1; have := Option.some.inj e; omega
theorem F1.step {w0 w : World} {q : Prg} {Lb : Nat} {rv cv : Value} {k : Nat} {ob : Option Nat} {wr w1 w2 : World} (h : F1 w0 w q Lb rv cv k ob wr) (h0 : w0.heap.size ≤ Lb) (h00 : w0.heap.size ≤ w.heap.size) (hL : Lb < w.heap.size) (hk : k < q.cl)
  (m1 : More (wr.setCell ⟨w.heap.size + 1, k, none⟩ (.int .i64 (startG fitL q.ins k : Nat))) w1) (hl : Lw Lb rv cv (w.heap.size + 2) (codeG fitL q.ins k) (fitL (q.ins k)) ob w1 w2) : ∃ ob', F1 w0 w q Lb rv cv (k + 1) ob' w2 := by
 have hb := h.ld.lo
 have g1 : wr.grownBy w1 (some (w.heap.size + 1)) := gr_more (gr_set (grown_refl _ _) _ _) m1
 obtain ⟨ob', h1, k2⟩ := hl
 have nb : ∀ b, b < w.heap.size + 2 → some b ≠ ob := fun b hb2 e => by have := (hb b e.symm).1; omega
 have r1 : ∀ j, j < q.cl → ∃ v, Wr w1 (w.heap.size + 1) j v := fun j hj => by
  obtain ⟨v, hv⟩ := h.room j hj
  by_cases c : k = j
  ·subst c; exact ⟨_, (hv.same _).kept (m1.grow none) (by simp)⟩
  ·exact ⟨v, (hv.other _ _ _ (.inr c)).kept (m1.grow none) (by simp)⟩
 have d1 : ∀ j, j < k + 1 → w1.cell? ⟨w.heap.size + 1, j, none⟩ = some (.int .i64 (startG fitL q.ins j : Nat)) := fun j hj => by
  obtain ⟨v, hv⟩ := h.room j (by omega)
  refine m1.cell ?_
  by_cases c : k = j
  ·subst c; exact (hv.same _).1
  ·rw [World.cell?_setCell_other _ _ _ _ (by intro e; simp only [Addr.mk.injEq] at e; omega)]
   exact h.done j (by omega)
 have g2 : ∀ b, b < w1.heap.size → b ≠ Lb → b < w.heap.size + 2 → w2.heap[b]? = w1.heap[b]? := fun b h1 h2 h3 => k2.block b h1 h2 (nb b h3)
 have hs : w.heap.size + 1 < w1.heap.size := by obtain ⟨v, hv⟩ := r1 k hk; exact cell_block hv.1
 refine ⟨ob', h1, ?_, fun j hj => ?_, fun j hj => ?_, ?_⟩
 ·have h2 : Blk w1 w.heap.size #[.slice none 0 0, .slice none 0 0] 25 := (g1.block _ h.res.lt (by simp)).trans h.res
  exact k2.blk h2 (by omega) (nb _ (by omega))
 ·obtain ⟨v, hv⟩ := r1 j hj
  have e := g2 (w.heap.size + 1) hs (by omega) (by omega)
  exact ⟨v, by rw [World.cell?_of_block (a := ⟨w.heap.size + 1, j, none⟩) e]; exact hv.1, by rw [World.frozen?_of_block (a := ⟨w.heap.size + 1, j, none⟩) e]; exact hv.2⟩
 ·rw [World.cell?_of_block (a := ⟨w.heap.size + 1, j, none⟩) (g2 (w.heap.size + 1) hs (by omega) (by omega))]
  exact d1 j hj
 ·exact k2.more ((h.more.setCell (by show w0.heap.size ≤ w.heap.size + 1; omega) _).trans m1) h0 (fun b e => by have := (hb b e).1; omega)

/-- What leads elsewhere leads to an instruction. -/
theorem codeF_place {q : Prg} (hq : q.Ok 8000 10) : ∀ n, n ≤ q.cl → ∀ i ∈ codeG fitL q.ins n, i.op = 7 ∨ i.op = 8 → 0 ≤ i.n ∧ i.n < q.cl
 | 0, _, i, hi, _ => by simp [codeG] at hi
 | n + 1, hn, i, hi, h => by
  rcases List.mem_append.1 hi with hi | hi
  ·exact codeF_place hq n (by omega) i hi h
  ·have hI := hq.2.2.2 n (by omega)
   by_cases c : (q.ins n).op = 1 ∨ (q.ins n).op = 10
   ·have hs : StrI (q.ins n) := by
     unfold InsOk Reg at hI
     rcases c with c | c
     ·simp [c] at hI; exact ⟨by omega, by omega, by omega, by omega⟩
     ·simp [c] at hI; exact ⟨by omega, by omega, by omega, by omega⟩
    exact absurd h (str78 (fitL_str hs i hi))
   ·rw [fitL_else (by omega) (by omega)] at hi
    obtain rfl : i = q.ins n := by simpa using hi
    unfold InsOk at hI
    rcases h with h | h
    ·simp [h] at hI; exact hI.2.2.2
    ·simp [h] at hI; exact hI.2.2.2
theorem startF_most (q : Prg) : ∀ n, n ≤ startG fitL q.ins n ∧ startG fitL q.ins n ≤ 11 * n
 | 0 => ⟨Nat.le_refl _, Nat.le_refl _⟩
 | n + 1 => by
  have := startF_most q n
  have := fitL_len (q.ins n)
  rw [startG_next]; omega

set_option maxHeartbeats 4000000 in
theorem lfit_calls (q : Prg) (l : Loc) (w0 w : World) (Lb : Nat) (m0 : More w0 w) (h0 : w0.heap.size ≤ Lb) (hp : PIn w0 q l) (hq : q.Ok 8000 10) (h6 : q.cl ≤ 600) (hB : Blk w Lb #[.slice l.ra q.rl l.rc, .slice l.ca q.cl l.cc, .slice none 0 0] 47) (hn : ∀ k, k < q.cl → B64 (q.ins k).n) :
  Calls Try.prog 13 #[.pointer (some ⟨Lb, 0, none⟩)] w fun e w' => ∃ lf : Loc, e = .returned (prgV (fitP q) lf) ∧ PIn w' (fitP q) lf ∧ More w0 w' := by
 suffices hP : ∀ P : Ending → World → Prop, (∀ gc cap w', PIn w' (fitP q) ⟨l.ra, l.rb, l.ro, l.rc, some ⟨gc, 0, none⟩, gc, 0, cap⟩ → More w0 w' → P (.returned (.agg #[.slice l.ra q.rl l.rc, .slice (some ⟨gc, 0, none⟩) (startG fitL q.ins q.cl) cap])) w') → Calls Try.prog 13 #[.pointer (some ⟨Lb, 0, none⟩)] w P from hP _ (fun gc cap w' h1 h2 => ⟨_, rfl, h1, h2⟩)
 intro P hP0
 have Hl : Hid (Lb < w.heap.size ∧ w0.heap.size ≤ Lb ∧ w0.heap.size ≤ w.heap.size) := ⟨hB.lt, h0, m0.size⟩
 have Hfin : Hid (∀ gc cap w' u, CodeAt w' gc 0 (startG fitL q.ins q.cl) (hardG fitL q.ins q.cl) → More w0 w' → w.heap.size < gc → u = (w'.setCell ⟨w.heap.size, 0, none⟩ (.slice l.ra q.rl l.rc)).setCell ⟨w.heap.size, 1, none⟩ (.slice (some ⟨gc, 0, none⟩) (startG fitL q.ins q.cl) cap) → ∀ u', More u u' → P (.returned (.agg #[.slice l.ra q.rl l.rc, .slice (some ⟨gc, 0, none⟩) (startG fitL q.ins q.cl) cap])) u') := by
  intro gc cap w' u hc m hg e u' mu
  have h2 := Hl.out
  have mm : More w0 u' := by
   refine More.trans ?_ mu
   rw [e]; exact (m.setCell (by show w0.heap.size ≤ w.heap.size; omega) _).setCell (by show w0.heap.size ≤ w.heap.size; omega) _
  refine hP0 gc cap u' ⟨hp.hr, fun _ => rfl, hp.regs.more mm, ?_⟩ mm
  refine CodeAt.more mu ?_
  rw [e]
  exact (hc.other (b' := w.heap.size) (by omega) 0 _).other (b' := w.heap.size) (by omega) 1 _
 have hcl0 := hq.2.1
 have hca := hp.hc (by omega)
 rw [hca] at hB
 obtain ⟨ra, Hra⟩ : ∃ x, Hid (l.ra = x) := ⟨_, rfl⟩
 obtain ⟨rl, Hrl⟩ : ∃ x, Hid (q.rl = x) := ⟨_, rfl⟩
 obtain ⟨rc, Hrc⟩ : ∃ x, Hid (l.rc = x) := ⟨_, rfl⟩
 obtain ⟨cb, Hcb⟩ : ∃ x, Hid (l.cb = x) := ⟨_, rfl⟩
 obtain ⟨co, Hco⟩ : ∃ x, Hid (l.co = x) := ⟨_, rfl⟩
 obtain ⟨cc, Hcc⟩ : ∃ x, Hid (l.cc = x) := ⟨_, rfl⟩
 obtain ⟨cl, Hcl⟩ : ∃ x, Hid (q.cl = x) := ⟨_, rfl⟩
 rw [Hra.out, Hrl.out, Hrc.out] at Hfin
 rw [Hra.out, Hrl.out, Hrc.out, Hcb.out, Hco.out, Hcc.out, Hcl.out] at hB
 rw [Hcl.out] at hcl0 h6
 have HC : Hid (∀ w1 : World, More w0 w1 → CodeAt w1 cb co cl q.ins) := fun w1 m1 => by
  have := hp.code.more m1
  rw [Hcb.out, Hco.out, Hcl.out] at this
  exact this
 have Hn : Hid (∀ k, k < cl → B64 (q.ins k).n) := fun k hk => hn k (by rw [Hcl.out]; exact hk)
 have Hst : Hid (∀ k, k ≤ cl → startG fitL q.ins k ≤ 6600) := fun k hk => by have := startF_most q k; omega
 have HS0 : Hid (F1 w0 w q Lb (.slice ra rl rc) (.slice (some ⟨cb, co, none⟩) cl cc) 0 none ((w.alloc (.cells #[.slice none 0 0, .slice none 0 0] 25)).alloc (.cells (madeCells #[.int .i64 0] cl) 2))) := by
  have := F1.start (q := q) m0 hB
  rw [Hcl.out] at this
  exact this
 have Hq : Hid (q.Ok 8000 10) := hq
 have b1 : w.cell? ⟨Lb, 1, none⟩ = some (.slice (some ⟨cb, co, none⟩) cl cc) := hB.cell rfl
 have hLb := hB.lt
 have ne0 : ¬ w.heap.size = Lb := by omega
 have ne00 : ¬ Lb = w.heap.size := by omega
 have ne01 : ¬ Lb = w.heap.size + 1 := by omega
 have HB : Hid (Blk w Lb #[.slice ra rl rc, .slice (some ⟨cb, co, none⟩) cl cc, .slice none 0 0] 47) := hB
 have hmk := run_make_row' (P := Try.prog) 68 2 (.int .i64 0) 8 Try.underlying68 info2 rfl .i64 .i64 cl (by omega) (by omega)
 clear hP0 hp hq hca hB hn
 go_enter Try.func13, Try.ntmps13
 go_wp2_with (fail)
 clear hmk
 go_loopg [21] cl (fun g iv wr => ∃ (k : Nat) (ob : Option Nat), k + g = cl ∧ iv = .int .i64 k ∧ Hid (F1 w0 w q Lb (.slice ra rl rc) (.slice (some ⟨cb, co, none⟩) cl cc) k ob wr))
 case atStart => exact ⟨0, none, by omega, rfl, HS0.out⟩
 case round =>
  obtain ⟨k, ob, hkg, rfl, Hr⟩ := hrel
  clear HS0
  cases gk with
  | zero =>
   obtain rfl : k = cl := by omega
   have hn0 : 1 ≤ startG fitL q.ins k := by have := startF_most q k; omega
   have hn1 := Hst.out k (Nat.le_refl _)
   obtain ⟨hl1, va, vc, hB1, hO1, _⟩ := Hr.out.ld
   obtain ⟨gc, cap, hv, _, _⟩ := hO1.form hn0
   cases hv
   have H20 : Hid (H2 fitL q.ins q.cl w0 [(Lb, #[.slice ra rl rc, .slice (some ⟨cb, co, none⟩) k cc, .slice (some ⟨gc, 0, none⟩) (startG fitL q.ins k) vc], 47), (w.heap.size, #[.slice none 0 0, .slice none 0 0], 25)] (w.heap.size + 1) gc 0 wr) := by
    have h1 := Hr.out
    have h2 := Hl.out
    have o1 : wr.ownsRow (w.heap.size + 2) 55 5 (.slice (some ⟨gc, 0, none⟩) (startG fitL q.ins k) vc) (startG fitL q.ins k) (flatI (codeG fitL q.ins k)) := hO1
    rw [← Hcl.out] at h1 o1 hB1 ⊢
    refine H2.start o1 h1.done (fun x hx => ?_) (by omega) h1.more
    simp only [List.mem_cons, List.not_mem_nil, or_false] at hx
    rcases hx with rfl | rfl
    ·exact ⟨hB1, by dsimp only; omega⟩
    ·exact ⟨h1.res, by dsimp only; omega⟩
   have Hpl : Hid (∀ j, j < startG fitL q.ins k → (mixG fitL q.ins q.cl j j).op = 7 ∨ (mixG fitL q.ins q.cl j j).op = 8 → 0 ≤ (mixG fitL q.ins q.cl j j).n ∧ (mixG fitL q.ins q.cl j j).n < k) := fun j hj h => by
    rw [mixG_here] at h ⊢
    have := codeF_place Hq.out q.cl (Nat.le_refl _) _ (List.mem_of_getElem? (getD_at (L := codeG fitL q.ins q.cl) (j := j) (by rw [Hcl.out]; exact hj) ⟨0, 0, 0, 0, 0⟩)) h
    rw [Hcl.out] at this ⊢
    exact this
   have hgc : w.heap.size + 2 ≤ gc := (hO1.lt gc rfl).1
   have Hend : Hid (∀ bs w' u, H2 fitL q.ins q.cl w0 bs (w.heap.size + 1) gc (startG fitL q.ins k) w' → u = (w'.setCell ⟨w.heap.size, 0, none⟩ (.slice ra rl rc)).setCell ⟨w.heap.size, 1, none⟩ (.slice (some ⟨gc, 0, none⟩) (startG fitL q.ins k) vc) → ∀ u', More u u' → P (.returned (.agg #[.slice ra rl rc, .slice (some ⟨gc, 0, none⟩) (startG fitL q.ins k) vc])) u') := fun bs w' u h2 hu => by
    rw [← Hcl.out] at h2 hu ⊢
    exact Hfin.out gc vc w' u h2.end_ h2.more (by omega) hu
   clear hO1 hB1 HC Hfin
   obtain ⟨sn, Hsn⟩ : ∃ x, Hid (startG fitL q.ins k = x) := ⟨_, rfl⟩
   rw [Hsn.out] at hn0 hn1 Hpl Hend H20
   have Hcd : Hid (∀ bs j wr, H2 fitL q.ins q.cl w0 bs (w.heap.size + 1) gc j wr → ∀ i, i < sn → InsWr wr gc i (mixG fitL q.ins q.cl j i)) := fun bs j wr h2 i hi => h2.code i (by rw [Hcl.out, Hsn.out]; exact hi)
   have Hsd : Hid (∀ bs j wr, H2 fitL q.ins q.cl w0 bs (w.heap.size + 1) gc j wr → ∀ i, i < k → wr.cell? ⟨w.heap.size + 1, i, none⟩ = some (.int .i64 (startG fitL q.ins i : Nat))) := fun bs j wr h2 i hi => h2.starts i (by rw [Hcl.out]; exact hi)
   obtain ⟨bs, Hbs⟩ : ∃ x : List (Nat × Array Value × TypeId), Hid ([(Lb, #[.slice ra rl rc, .slice (some ⟨cb, co, none⟩) k cc, .slice (some ⟨gc, 0, none⟩) sn vc], 47), (w.heap.size, #[.slice none 0 0, .slice none 0 0], 25)] = x) := ⟨_, rfl⟩
   rw [Hbs.out] at H20
   have HbL : Hid (∀ j wr, H2 fitL q.ins q.cl w0 bs (w.heap.size + 1) gc j wr → Blk wr Lb #[.slice ra rl rc, .slice (some ⟨cb, co, none⟩) k cc, .slice (some ⟨gc, 0, none⟩) sn vc] 47) := fun j wr h2 => (h2.box _ (by rw [← Hbs.out]; exact List.mem_cons_self)).1
   have HbR : Hid (∀ j wr, H2 fitL q.ins q.cl w0 bs (w.heap.size + 1) gc j wr → Blk wr w.heap.size #[.slice none 0 0, .slice none 0 0] 25) := fun j wr h2 => (h2.box _ (by rw [← Hbs.out]; exact List.mem_cons_of_mem _ List.mem_cons_self)).1
   have b2 : wr.cell? ⟨Lb, 2, none⟩ = some (.slice (some ⟨gc, 0, none⟩) sn vc) := (HbL.out 0 wr H20.out).cell rfl
   obtain ⟨wm, rfl⟩ : ∃ wm, wm = wr := ⟨wr, rfl⟩
   go_wp2_with (fail)
   clear b2
   go_loopg [43] sn (fun g2 iv wr2 => ∃ j : Nat, j + g2 = sn ∧ iv = .int .i64 j ∧ Hid (H2 fitL q.ins q.cl w0 bs (w.heap.size + 1) gc j wr2))
   case atStart => exact ⟨0, by omega, rfl, H20.out⟩
   case round =>
    obtain ⟨j, hjg, rfl, Hr2⟩ := hrel
    clear H20
    have HbLr := HbL.out j wr Hr2.out
    have hzL := HbLr.lt
    have b2 : wr.cell? ⟨Lb, 2, none⟩ = some (.slice (some ⟨gc, 0, none⟩) sn vc) := HbLr.cell rfl
    cases gk with
    | zero =>
     obtain rfl : j = sn := by omega
     obtain ⟨wd, Hwd⟩ : ∃ w_ : World, Hid (w_ = wr.drew) := ⟨_, rfl⟩
     have Hmd : Hid (More wr wd) := Hwd.out ▸ (More.refl wr).drew
     obtain ⟨S, HS⟩ : ∃ S : World → Prop, Hid (∀ w', S w' ↔ Blk w' Lb #[.slice ra rl rc, .slice (some ⟨cb, co, none⟩) k cc, .slice (some ⟨gc, 0, none⟩) j vc] 47) := ⟨_, fun _ => Iff.rfl⟩
     have HS1 : S wd := (HS.out _).2 (HbLr.more Hmd.out)
     have HS0 : S wr.drew := Hwd.out ▸ HS1
     have k0 : ∀ i : { w' // S w' }, i.val.cell? ⟨Lb, 0, none⟩ = some (.slice ra rl rc) := fun i => ((HS.out _).1 i.property).cell rfl
     have k2 : ∀ i : { w' // S w' }, i.val.cell? ⟨Lb, 2, none⟩ = some (.slice (some ⟨gc, 0, none⟩) j vc) := fun i => ((HS.out _).1 i.property).cell rfl
     have hne : Nonempty { w' // S w' } := ⟨⟨_, HS0⟩⟩
     have HR := (HbR.out j wr Hr2.out).more Hmd.out
     have r0 : wd.cell? ⟨w.heap.size, 0, none⟩ = some (.slice none 0 0) := HR.cell rfl
     have r1 : wd.cell? ⟨w.heap.size, 1, none⟩ = some (.slice none 0 0) := HR.cell rfl
     have z0 := HR.frozen 0
     have z1 := HR.frozen 1
     have zz := HR.lt
     have He : Hid (∀ u', More ((wd.setCell ⟨w.heap.size, 0, none⟩ (.slice ra rl rc)).setCell ⟨w.heap.size, 1, none⟩ (.slice (some ⟨gc, 0, none⟩) j vc)) u' → P (.returned (.agg #[.slice ra rl rc, .slice (some ⟨gc, 0, none⟩) j vc])) u') := fun u' mu => Hend.out bs wd _ (Hr2.out.far Hmd.out) rfl u' mu
     have HSz : Hid (S ((wd.setCell ⟨w.heap.size, 0, none⟩ (.slice ra rl rc)).setCell ⟨w.heap.size, 1, none⟩ (.slice (some ⟨gc, 0, none⟩) j vc))) := (HS.out _).2 ((((HS.out _).1 HS1).other ne0 _ _).other ne0 _ _)
     clear Hend HbLr HR b2 HS1
     go_wp2_with (fail)
     refine wp_region_ord (S := S) [(0, true), (1, true), (2, true), (3, true), (4, true), (5, true), (6, true), (7, true), (8, true), (9, true), (10, false)] (by kernel_rfl) (by kernel_rfl) (by kernel_rfl) HS0 ?_
     rw [← Hwd.out]
     iterate 10 (refine wpOrd_take rfl (by kernel_rfl) (fun K hK => ?_); go_simp; refine hK _ _ ?_; clear hK K)
     refine wpOrd_busy rfl (by kernel_rfl) (fun K hK => ?_)
     go_simp
     refine hK _ _ HSz.out ?_
     refine wpOrd_done ?_
     clear hK K k0 k2 hne HS0
     go_wp2
     refine bodyPost_ret (v := .agg #[.slice ra rl rc, .slice (some ⟨gc, 0, none⟩) j vc]) (by simp [results, Try.results13, go_sem, *]) rfl (He.out _ ?_)
     exact More.refl _
    | succ g =>
     have hj : j < sn := by omega
     have hji : (j : Int) < sn := by omega
     have hj63 : wrap64 ((j : Int) + 1) = (j : Int) + 1 := by unfold wrap64; omega
     have hI := Hcd.out bs j wr Hr2.out j hj
     have Hpq := Hpl.out j hj
     have Hps : Hid (¬ ((mixG fitL q.ins q.cl j j).op = 7 ∨ (mixG fitL q.ins q.cl j j).op = 8) → ∀ w', More wr w' → H2 fitL q.ins q.cl w0 bs (w.heap.size + 1) gc (j + 1) w') := fun h w' m => Hr2.out.pass m h
     have Hld : Hid ((mixG fitL q.ins q.cl j j).op = 7 ∨ (mixG fitL q.ins q.cl j j).op = 8 → ∀ w', More wr w' → H2 fitL q.ins q.cl w0 bs (w.heap.size + 1) gc (j + 1) (w'.setCell ⟨gc, j * 5 + 4, none⟩ (.int .i64 (startG fitL q.ins (mixG fitL q.ins q.cl j j).n.toNat : Nat)))) := fun h w' m => (Hr2.out.far m).lead h
     obtain ⟨⟨op, a, b, c, n⟩, HI⟩ : ∃ x, Hid (mixG fitL q.ins q.cl j j = x) := ⟨_, rfl⟩
     rw [HI.out] at hI Hpq Hps Hld
     obtain ⟨⟨c0, _⟩, ⟨c1, _⟩, ⟨c2, _⟩, ⟨c3, _⟩, ⟨c4, f4⟩⟩ := hI
     dsimp only at c0 c1 c2 c3 c4 Hpq Hps Hld
     have zg := Hr2.out.hi
     have hLg : ¬ Lb = gc := by omega
     have hLg2 : ¬ gc = Lb := by omega
     clear HbLr
     by_cases h78 : op = 7 ∨ op = 8
     ·have hpq := Hpq h78
      obtain ⟨n0, n1⟩ := hpq
      obtain ⟨nn, rfl⟩ := Int.eq_ofNat_of_zero_le n0
      have hnk : (nn : Int) < (k : Int) := n1
      have hsN := Hsd.out bs j wr Hr2.out nn (by omega)
      have zs := cell_block hsN
      dsimp only at zs
      have Hn2 : Hid (∀ w', More wr w' → H2 fitL q.ins q.cl w0 bs (w.heap.size + 1) gc (j + 1) (w'.setCell ⟨gc, j * 5 + 4, none⟩ (.int .i64 (startG fitL q.ins nn : Nat)))) := fun w' m' => Hld.out h78 w' m'
      obtain ⟨sN, HsN⟩ : ∃ x, Hid (startG fitL q.ins nn = x) := ⟨_, rfl⟩
      rw [HsN.out] at hsN Hn2
      have ne1 : ¬ wr.heap.size = gc := by omega
      have ne2 : ¬ gc = wr.heap.size := by omega
      clear Hps Hld Hpq n0 n1
      have h7c : (op == 7) = true ∨ ((op == 7) = false ∧ (op == 8) = true) := by rcases h78 with rfl | rfl <;> simp
      clear h78
      rcases h7c with e7 | ⟨e7, e8⟩
      all_goals
       obtain ⟨W, HW⟩ : ∃ w_ : World, Hid (w_ = wr.alloc (.cells #[.int .i64 op, .int .i64 a, .int .i64 b, .int .i64 c, .int .i64 nn] 55)) := ⟨_, rfl⟩
       have HmW : Hid (More wr W) := HW.out ▸ (More.refl _).alloc _ _
       have c44 := (HW.out ▸ Blk.last _ _ _ : Blk W wr.heap.size #[.int .i64 op, .int .i64 a, .int .i64 b, .int .i64 c, .int .i64 nn] 55).cell (j := 4) rfl
       obtain ⟨wd, Hwd⟩ : ∃ w_ : World, Hid (w_ = W.drew) := ⟨_, rfl⟩
       have Hmd : Hid (More W wd) := Hwd.out ▸ (More.refl W).drew
       obtain ⟨S, HS⟩ : ∃ S : World → Prop, Hid (∀ w', S w' ↔ (w'.cell? ⟨Lb, 2, none⟩ = some (.slice (some ⟨gc, 0, none⟩) sn vc) ∧ w'.cell? ⟨wr.heap.size, 4, none⟩ = some (.int .i64 nn) ∧ w'.cell? ⟨w.heap.size + 1, nn, none⟩ = some (.int .i64 sN))) := ⟨_, fun _ => Iff.rfl⟩
       have HS1 : S wd := (HS.out _).2 ⟨(HmW.out.trans Hmd.out).cell b2, Hmd.out.cell c44, (HmW.out.trans Hmd.out).cell hsN⟩
       have HS0 : S W.drew := Hwd.out ▸ HS1
       have k0 : ∀ i : { w' // S w' }, i.val.cell? ⟨Lb, 2, none⟩ = some (.slice (some ⟨gc, 0, none⟩) sn vc) := fun i => ((HS.out _).1 i.property).1
       have k1 : ∀ i : { w' // S w' }, i.val.cell? ⟨wr.heap.size, 4, none⟩ = some (.int .i64 nn) := fun i => ((HS.out _).1 i.property).2.1
       have k2 : ∀ i : { w' // S w' }, i.val.cell? ⟨w.heap.size + 1, nn, none⟩ = some (.int .i64 sN) := fun i => ((HS.out _).1 i.property).2.2
       have hne : Nonempty { w' // S w' } := ⟨⟨_, HS0⟩⟩
       have x4 : wd.cell? ⟨gc, j * 5 + 4, none⟩ = some (.int .i64 nn) := (HmW.out.trans Hmd.out).cell c4
       have y4 : wd.frozen? ⟨gc, j * 5 + 4, none⟩ = false := by
        rw [World.frozen?_of_block (a := ⟨gc, j * 5 + 4, none⟩) ((HmW.out.trans Hmd.out).block gc zg)]; exact f4
       have HSz : Hid (S (wd.setCell ⟨gc, j * 5 + 4, none⟩ (.int .i64 sN))) := (HS.out _).2 (by
        have h1 := (HS.out _).1 HS1
        refine ⟨?_, ?_, ?_⟩
        ·rw [World.cell?_setCell_other _ _ _ _ (by intro e; simp only [Addr.mk.injEq] at e; omega)]; exact h1.1
        ·rw [World.cell?_setCell_other _ _ _ _ (by intro e; simp only [Addr.mk.injEq] at e; omega)]; exact h1.2.1
        ·rw [World.cell?_setCell_other _ _ _ _ (by intro e; simp only [Addr.mk.injEq] at e; omega)]; exact h1.2.2)
       clear HS1 Hcd Hsd HbL HbR Hpl Hend hn0 hn1 hLg hLg2 hcl0 h6
       go_wp2_with (fail)
       rw [← HW.out]
       refine wp_region_ord (S := S) [(0, true), (1, true), (2, true), (3, true), (4, true), (5, true), (6, true), (7, true), (8, true), (9, true), (10, true), (11, true), (12, false)] (by kernel_rfl) (by kernel_rfl) (by kernel_rfl) HS0 ?_
       rw [← Hwd.out]
       iterate 12 (refine wpOrd_take rfl (by kernel_rfl) (fun K hK => ?_); go_simp; refine hK _ _ ?_; clear hK K)
       refine wpOrd_busy rfl (by kernel_rfl) (fun K hK => ?_)
       go_simp
       refine hK _ _ HSz.out ?_
       refine wpOrd_done ?_
       clear hK K k0 k1 k2 hne HS0
       go_wp2
       go_roundg g
       case measure => omega
       case rel => exact ⟨j + 1, by omega, by simp [hj63], Hn2.out wd (HmW.out.trans Hmd.out)⟩
     ·have e7 : (op == 7) = false := by simp; omega
      have e8 : (op == 8) = false := by simp; omega
      have Hn2 : Hid (∀ w', More wr w' → H2 fitL q.ins q.cl w0 bs (w.heap.size + 1) gc (j + 1) w') := Hps.out h78
      clear h78 Hps Hld Hpq Hcd Hsd HbL HbR Hpl Hend hn0 hn1 hLg hLg2 hcl0 h6
      go_wp2
      go_roundg g
      case measure => omega
      case rel => exact ⟨j + 1, by omega, by simp [hj63], Hn2.out _ ((More.refl _).alloc _ _)⟩
  | succ g =>
   have hk : k < cl := by omega
   have hki : (k : Int) < cl := by omega
   have hk63 : wrap64 ((k : Int) + 1) = (k : Int) + 1 := by unfold wrap64; omega
   obtain ⟨q0, q1, q2, q3, q4⟩ := HC.out wr Hr.out.more k hk
   obtain ⟨_, va, vc, hB1, _, _⟩ := Hr.out.ld
   have b2 : wr.cell? ⟨Lb, 2, none⟩ = some (.slice va (startG fitL q.ins k) vc) := hB1.cell rfl
   have hst0 := Hst.out k (by omega)
   have HS : Hid (∀ w1 w2 : World, More (wr.setCell ⟨w.heap.size + 1, k, none⟩ (.int .i64 (startG fitL q.ins k : Nat))) w1 → Lw Lb (.slice ra rl rc) (.slice (some ⟨cb, co, none⟩) cl cc) (w.heap.size + 2) (codeG fitL q.ins k) (fitL (q.ins k)) ob w1 w2 → ∃ ob', F1 w0 w q Lb (.slice ra rl rc) (.slice (some ⟨cb, co, none⟩) cl cc) (k + 1) ob' w2) := fun w1 w2 m1 hl => Hr.out.step Hl.out.2.1 Hl.out.2.2 Hl.out.1 (by rw [Hcl.out]; exact hk) m1 hl
   have HD : Hid (∀ w1, More (wr.setCell ⟨w.heap.size + 1, k, none⟩ (.int .i64 (startG fitL q.ins k : Nat))) w1 → Ld w1 Lb (.slice ra rl rc) (.slice (some ⟨cb, co, none⟩) cl cc) (w.heap.size + 2) (codeG fitL q.ins k) ob) := fun w1 m1 => Hr.out.mid Hl.out.1 m1
   have HF : Hid (∀ w1, Ld w1 Lb (.slice ra rl rc) (.slice (some ⟨cb, co, none⟩) cl cc) (w.heap.size + 2) (codeG fitL q.ins k) ob → w.heap.size + 2 ≤ w1.heap.size → Calls Try.prog 34 #[.pointer (some ⟨Lb, 0, none⟩), .agg #[.int .i64 (q.ins k).op, .int .i64 (q.ins k).a, .int .i64 (q.ins k).b, .int .i64 (q.ins k).c, .int .i64 (q.ins k).n]] w1 (Laid Lb (.slice ra rl rc) (.slice (some ⟨cb, co, none⟩) cl cc) (w.heap.size + 2) (codeG fitL q.ins k) (fitL (q.ins k)) ob w1)) := fun w1 h1 h2 => fitting1_calls Lb _ _ _ (q.ins k) _ ob w1 h1 h2 (by show startG fitL q.ins k ≤ 8800; omega) (Hn.out k hk)
   obtain ⟨rv, hrv, hfz⟩ := Hr.out.room k (by rw [Hcl.out]; exact hk)
   have hz1 : w.heap.size + 1 < wr.heap.size := cell_block hrv
   have n1 : ¬ wr.heap.size = w.heap.size + 1 := by omega
   have n2 : ¬ w.heap.size + 1 = wr.heap.size := by omega
   have hzL : Lb < wr.heap.size := by omega
   have n3 : ¬ wr.heap.size = Lb := by omega
   have n4 : ¬ Lb = wr.heap.size := by omega
   obtain ⟨st, Hstk⟩ : ∃ x, Hid (startG fitL q.ins k = x) := ⟨_, rfl⟩
   rw [Hstk.out] at b2 hst0 HS HD
   obtain ⟨⟨op, a, b, c, n⟩, HI⟩ : ∃ x, Hid (q.ins k = x) := ⟨_, rfl⟩
   rw [HI.out] at q0 q1 q2 q3 q4 HF HS
   dsimp only at q0 q1 q2 q3 q4 HF HS
   clear hB1
   obtain ⟨w1, Hw1⟩ : ∃ w_ : World, Hid (w_ = (wr.setCell ⟨w.heap.size + 1, k, none⟩ (.int .i64 (st : Nat))).alloc (.cells #[.int .i64 op, .int .i64 a, .int .i64 b, .int .i64 c, .int .i64 n] 55)) := ⟨_, rfl⟩
   have Hm1 : Hid (More (wr.setCell ⟨w.heap.size + 1, k, none⟩ (.int .i64 (st : Nat))) w1) := Hw1.out ▸ (More.refl _).alloc _ _
   have Hz1 : Hid (w.heap.size + 2 ≤ w1.heap.size) := by
    have := Hm1.out.size
    show _ ≤ _
    simp [World.setCell] at this
    omega
   have HF1 := HF.out w1 (HD.out w1 Hm1.out) Hz1.out
   go_wp2_with (fail)
   rw [← Hw1.out]
   refine HF1.mono ?_
   rintro e w2 ⟨rfl, hw2⟩
   obtain ⟨ob', hr2⟩ := HS.out w1 w2 Hm1.out hw2
   have Hr2 : Hid (F1 w0 w q Lb (.slice ra rl rc) (.slice (some ⟨cb, co, none⟩) cl cc) (k + 1) ob' w2) := hr2
   clear hr2 hw2 q0 q1 q2 q3 q4 b2 hrv hfz
   go_wp2
   go_roundg g
   case measure => omega
   case rel => exact ⟨k + 1, ob', by omega, by first | rfl | simp, Hr2.out⟩
/-- The program that a program's words are. -/
def backP (p : Prg) : Prg := getP p.rl p.log p.sec p.cl (fun j => encW (p.ins j))
theorem back_ins {p : Prg} (ok : p.Ok 8000 10) (hn : ∀ j, j < p.cl → N14 (p.ins j).n) {j : Nat} (hj : j < p.cl) : (backP p).ins j = p.ins j := dec_enc (small_of ok.1.1 (ok.2.2.2 j hj)) (hn j hj)
theorem back_ok {p : Prg} (ok : p.Ok 8000 10) (hn : ∀ j, j < p.cl → N14 (p.ins j).n) : (backP p).Ok 8000 10 := by
 refine ⟨ok.1, ok.2.1, ok.2.2.1, fun i hi => ?_⟩
 have hi' : i < p.cl := hi
 rw [back_ins ok hn hi']
 exact ok.2.2.2 i hi'
end
section
open Go.RowKit
set_option linter.unusedSimpArgs false
set_option linter.unusedVariables false
section
variable {p h : Prg} {st : Nat → Nat} {B : Nat → List Ins} {X : Int} {l : KV} {lab : Nat → Nat → Bool}

end
/-- Some that go straight on, done one after the other. -/
theorem run_str {h : Prg} : ∀ (A : List Ins) (t : St), (∀ o i, A[o]? = some i → h.ins (t.at_ + o) = i) → (∀ i ∈ A, StrI i) → t.at_ + A.length ≤ h.cl → ∃ se, ∀ f k, ∃ k', runI h (f + A.length) k t = runI h f k' ⟨t.at_ + A.length, seqR A t.r, t.m, se⟩
 | [], t, _, _, _ => ⟨t.seen, fun f k => ⟨k, rfl⟩⟩
 | i :: A, t, h1, h2, h3 => by
  have hi := h2 i (by simp)
  have q := str_op hi
  have e := h1 0 i rfl
  rw [Nat.add_zero] at e
  have n3 : ¬ i.op = 3 := fun c => by have := hi.1; omega
  have n4 : ¬ i.op = 4 := fun c => by have := hi.1; omega
  have n5 : ¬ i.op = 5 := fun c => by have := hi.1; omega
  have n6 : ¬ i.op = 6 := fun c => by have := hi.1; omega
  have es := step_regs (s := t) e n3 n4 n5 n6 q.1 q.2.1 q.2.2.1
  have hlen : (i :: A).length = A.length + 1 := rfl
  rw [hlen] at h3
  obtain ⟨se, e2⟩ := run_str A ⟨t.at_ + 1, (regsI t.r i).1, t.m, t.seen ++ [⟨1, t.at_, 0⟩] ++ (regsI t.r i).2⟩ (fun o j hj => by
   have := h1 (o + 1) j (by simpa using hj)
   rw [show t.at_ + (o + 1) = t.at_ + 1 + o by omega] at this
   exact this) (fun j hj => h2 j (by simp [hj])) (by dsimp only; omega)
  refine ⟨se, fun f k => ?_⟩
  obtain ⟨k', e3⟩ := e2 f (k + 1)
  refine ⟨k', ?_⟩
  rw [hlen, show f + (A.length + 1) = f + A.length + 1 by omega, run_on (by omega) es, e3]
  dsimp only
  rw [show t.at_ + 1 + A.length = t.at_ + (A.length + 1) by omega]
  rfl

section
variable {p h : Prg} {st : Nat → Nat} {B : Nat → List Ins} {X : Int} {l : KV} {m : Mem} {s t : St}

/-- One step of it, in as many steps as it has become. -/
theorem bl_step (S : Blo p h st B X) (g : Good p m l) (hs : Sound p m l s) (R : Rel st s t) :
  (∃ s' t', stepI p s = (s', some (1, s.r (p.ins s.at_).a.toNat)) ∧ stepI h t = (t', some (1, s.r (p.ins s.at_).a.toNat)) ∧ t'.m = s'.m) ∨
  ∃ s', stepI p s = (s', none) ∧ Sound p m l s' ∧ ∃ t', Rel st s' t' ∧ ∀ f k, ∃ k', runI h (f + (B s.at_).length) k t = runI h f k' t' := by
 have hi := g.ok.2.2.2 s.at_ hs.at_
 have hg := regs_of hi
 have ha := hs.at_
 have hz := S.ne _ ha
 have hat : t.at_ < h.cl := by rw [R.at_]; exact S.lt (o := 0) ha hz
 have one' : ∀ i, B s.at_ = [i] → h.ins t.at_ = i := fun i e => by
  have := S.at_ s.at_ ha 0 i (by rw [e]; rfl)
  rw [R.at_]; exact this
 by_cases h9 : (p.ins s.at_).op = 9
 ·have e := one' _ (S.one s.at_ ha (by omega))
  have e2 := step_eq_stop e h9
  rw [R.r _ (hg.1 (by omega))] at e2
  exact .inl ⟨_, _, step_eq_stop rfl h9, e2, R.m⟩
 right
 rcases g.step hs with ⟨_, _, _, q, _⟩ | ⟨s', es, hs'⟩
 ·exact absurd q h9
 refine ⟨s', es, hs', ?_⟩
 obtain ⟨k, ek, hk⟩ := hs.kn
 have en := S.next s.at_ ha
 have one : ∀ t', (B s.at_).length = 1 → stepI h t = (t', none) → Rel st s' t' → ∃ t', Rel st s' t' ∧ ∀ f k, ∃ k', runI h (f + (B s.at_).length) k t = runI h f k' t' := fun t' e0 e1 e2 => ⟨t', e2, fun f k => ⟨k + 1, by rw [e0]; exact run_on hat e1⟩⟩
 by_cases h7 : (p.ins s.at_).op = 7
 ·have eB := S.go s.at_ ha (.inl h7)
  have e := one' _ eB
  rw [step_eq_go rfl h7] at es
  obtain ⟨rfl, _⟩ := Prod.mk.inj es
  refine one _ (by rw [eB]; rfl) (step_eq_go e h7) ⟨?_, R.r, R.m⟩
  dsimp only
  rw [Int.toNat_natCast]
 by_cases h8 : (p.ins s.at_).op = 8
 ·have eB := S.go s.at_ ha (.inr h8)
  have e := one' _ eB
  have len : (B s.at_).length = 1 := by rw [eB]; rfl
  rw [len, ← R.at_] at en
  rw [step_eq_cond rfl h8] at es
  obtain ⟨rfl, _⟩ := Prod.mk.inj es
  refine one _ len (step_eq_cond e h8) ⟨?_, R.r, R.m⟩
  dsimp only
  rw [Int.toNat_natCast, R.r _ (hg.1 (by omega)), R.r _ (hg.2.1 (by omega))]
  split
  ·rfl
  ·exact en.symm
 have hB64 : ∀ j, j < 8 → B64 (t.r j) := fun j hj => by rw [R.r j hj]; exact hs.r j (by omega)
 by_cases h34 : (p.ins s.at_).op = 3 ∨ (p.ins s.at_).op = 4
 ·obtain ⟨pre, eB, hstr, m1, m2, m3, _⟩ := S.mem s.at_ ha h34
  have len : (B s.at_).length = pre.length + 1 := by rw [eB]; simp
  obtain ⟨hw, c1, c2⟩ := g.word hs ek hk (by omega)
  have xn := S.xn
  have hb := hg.2.1 (by omega)
  have hra := hg.1 (by omega)
  have hlen := g.fits.2.2 _ c1
  have hwp := hw
  rw [hs.len, hlen] at hw
  have hlog := g.fits.1.2 _ c1
  have h64 := two_pow_le (k := (p.log (p.ins s.at_).c.toNat).toNat) (by omega)
  have hwd : wordsI (p.log (p.ins s.at_).c.toNat) = 2 ^ (p.log (p.ins s.at_).c.toNat).toNat := rfl
  have ei : idxI t.r (p.ins s.at_) = idxI s.r (p.ins s.at_) := by unfold idxI; rw [if_neg (by omega), if_neg (by omega), R.r _ hb]
  have hx := m3 t.r hB64 (by rw [ei]; omega) (by rw [ei]; omega)
  rw [ei] at hx
  have low : ∀ j, j < 8 → seqR pre t.r j = s.r j := fun j hj => by rw [m1 t.r j hj]; exact R.r j hj
  have hcore : h.ins (t.at_ + pre.length) = ⟨(p.ins s.at_).op, (p.ins s.at_).a, X, (p.ins s.at_).c, 0⟩ := by
   rw [R.at_]
   exact S.at_ s.at_ ha pre.length _ (by rw [eB]; simp)
  have hlt : t.at_ + pre.length < h.cl := by rw [R.at_]; exact S.lt ha (by omega)
  have ex : idxI (seqR pre t.r) ⟨(p.ins s.at_).op, (p.ins s.at_).a, X, (p.ins s.at_).c, 0⟩ = idxI s.r (p.ins s.at_) := by rw [idx_x _ h34 (by rw [hx]; omega) (by rw [hx]; omega), hx]
  have ml : (t.m.len (p.ins s.at_).c.toNat : Int) = wordsI (p.log (p.ins s.at_).c.toNat) := by rw [R.m, hs.len, hlen]
  have hw2 : ¬ (idxI (seqR pre t.r) ⟨(p.ins s.at_).op, (p.ins s.at_).a, X, (p.ins s.at_).c, 0⟩ < 0 ∨ (t.m.len (p.ins s.at_).c.toNat : Int) ≤ idxI (seqR pre t.r) ⟨(p.ins s.at_).op, (p.ins s.at_).a, X, (p.ins s.at_).c, 0⟩) := by rw [ex, ml]; exact hw
  have runp := run_str pre t (fun o i hi2 => by
   rw [R.at_]
   exact S.at_ s.at_ ha o i (by rw [eB, List.getElem?_append_left (List.getElem?_eq_some_iff.1 hi2).1]; exact hi2)) hstr (by omega)
  obtain ⟨se, hrun⟩ := runp
  have fin : ∀ t', stepI h ⟨t.at_ + pre.length, seqR pre t.r, t.m, se⟩ = (t', none) → Rel st s' t' → ∃ t', Rel st s' t' ∧ ∀ f k, ∃ k', runI h (f + (B s.at_).length) k t = runI h f k' t' := fun t' q1 q2 =>
   ⟨t', q2, fun f k => by
    obtain ⟨k1, e1⟩ := hrun (f + 1) k
    exact ⟨k1 + 1, by rw [len, show f + (pre.length + 1) = f + 1 + pre.length by omega, e1, run_on hlt q1]⟩⟩
  rw [len, ← R.at_] at en
  rcases h34 with h3 | h4
  ·rw [step_load rfl (.inl h3) hwp] at es
   obtain ⟨rfl, _⟩ := Prod.mk.inj es
   refine fin _ (step_load (s := ⟨t.at_ + pre.length, seqR pre t.r, t.m, se⟩) hcore (.inl h3) hw2) ⟨by dsimp only; omega, fun j hj => ?_, R.m⟩
   dsimp only
   rw [ex, R.m]
   unfold setR
   by_cases c : j = (p.ins s.at_).a.toNat
   ·rw [if_pos c, if_pos c]
   ·rw [if_neg c, if_neg c]; exact low j hj
  ·rw [step_put rfl (.inl h4) hwp] at es
   obtain ⟨rfl, _⟩ := Prod.mk.inj es
   refine fin _ (step_put (s := ⟨t.at_ + pre.length, seqR pre t.r, t.m, se⟩) hcore (.inl h4) hw2) ⟨by dsimp only; omega, low, ?_⟩
   dsimp only
   rw [ex, R.m, low _ hra]
 by_cases v : (p.ins s.at_).op = 5 ∨ (p.ins s.at_).op = 6 ∨ (p.ins s.at_).op = 9 ∨ (p.ins s.at_).op = 12 ∨ (p.ins s.at_).op = 29 ∨ (p.ins s.at_).op = 30
 ·have eB := S.one s.at_ ha v
  have e := one' _ eB
  have len : (B s.at_).length = 1 := by rw [eB]; rfl
  rw [len, ← R.at_] at en
  by_cases h56 : (p.ins s.at_).op = 5 ∨ (p.ins s.at_).op = 6
  ·obtain ⟨hw, c1, c2⟩ := g.word hs ek hk (by omega)
   have ei : ∀ r, idxI r (p.ins s.at_) = (p.ins s.at_).n := fun r => by unfold idxI; rw [if_pos h56]
   have hw2 : ¬ (idxI t.r (p.ins s.at_) < 0 ∨ (t.m.len (p.ins s.at_).c.toNat : Int) ≤ idxI t.r (p.ins s.at_)) := by rw [ei, R.m]; rw [ei] at hw; exact hw
   have hra := hg.1 (by omega)
   rcases h56 with h5 | h6
   ·rw [step_load rfl (.inr h5) hw] at es
    obtain ⟨rfl, _⟩ := Prod.mk.inj es
    refine one _ len (step_load e (.inr h5) hw2) ⟨by dsimp only; omega, fun j hj => ?_, R.m⟩
    dsimp only
    rw [ei, ei, R.m]
    unfold setR
    by_cases c : j = (p.ins s.at_).a.toNat
    ·rw [if_pos c, if_pos c]
    ·rw [if_neg c, if_neg c]; exact R.r j hj
   ·rw [step_put rfl (.inr h6) hw] at es
    obtain ⟨rfl, _⟩ := Prod.mk.inj es
    refine one _ len (step_put e (.inr h6) hw2) ⟨by dsimp only; omega, R.r, ?_⟩
    dsimp only
    rw [ei, ei, R.m, R.r _ hra]
  ·rw [step_regs rfl (by omega) (by omega) (by omega) (by omega) h7 h8 h9] at es
   obtain ⟨rfl, _⟩ := Prod.mk.inj es
   exact one _ len (step_regs e (by omega) (by omega) (by omega) (by omega) h7 h8 h9) ⟨by dsimp only; omega, regs_low hi (by omega) R.r, R.m⟩
 ·obtain ⟨hstr, o1, _⟩ := S.ops s.at_ ha h34 (by omega) v
  rw [step_regs rfl (by omega) (by omega) (by omega) (by omega) h7 h8 h9] at es
  obtain ⟨rfl, _⟩ := Prod.mk.inj es
  obtain ⟨se, hrun⟩ := run_str (B s.at_) t (fun o i hi2 => by rw [R.at_]; exact S.at_ s.at_ ha o i hi2) hstr (by
   have := S.mono p.cl s.at_ ha (Nat.le_refl _)
   rw [R.at_, S.cl]; exact this)
  refine ⟨⟨t.at_ + (B s.at_).length, seqR (B s.at_) t.r, t.m, se⟩, ⟨?_, fun j hj => ?_, R.m⟩, hrun⟩
  ·dsimp only
   rw [R.at_, en]
  ·dsimp only
   rw [o1 t.r hB64 j hj]
   exact regs_low hi (by omega) R.r j hj

theorem bl_run (S : Blo p h st B X) (g : Good p m l) (c : Nat) (hc : ∀ k, k < p.cl → (B k).length ≤ c) : ∀ (f F k k' : Nat) (s t : St), Sound p m l s → Rel st s t → c * f ≤ F →
  (runI p f k s).fin = 0 ∨ ((runI h F k' t).fin = (runI p f k s).fin ∧ (runI h F k' t).val = (runI p f k s).val ∧ (runI h F k' t).mem.Like (runI p f k s).mem)
 | 0, F, k, k', s, t, _, _, _ => .inl rfl
 | f + 1, F, k, k', s, t, hs, R, hF => by
  have hz := S.ne _ hs.at_
  have hz2 := hc _ hs.at_
  have hat : t.at_ < h.cl := by rw [R.at_]; exact S.lt (o := 0) hs.at_ hz
  have ha := hs.at_
  have hm : c * (f + 1) = c * f + c := Nat.mul_succ c f
  rcases bl_step S g hs R with ⟨s', t', e1, e2, e3⟩ | ⟨s', e1, hs', t', R', hr⟩
  ·right
   obtain ⟨F, rfl⟩ : ∃ G, F = G + 1 := ⟨F - 1, by omega⟩
   rw [runI, runI, if_neg (by omega), if_neg (by omega), e1, e2]
   dsimp only
   rw [e3]
   exact ⟨rfl, rfl, Mem.like_refl _⟩
  ·obtain ⟨G, rfl⟩ : ∃ G, F = G + (B s.at_).length := ⟨F - (B s.at_).length, by omega⟩
   obtain ⟨k2, e4⟩ := hr G k'
   rw [e4, run_on (h := p) ha e1]
   exact bl_run S g c hc f G (k + 1) k2 s' t' hs' R' (by omega)

/-- It does the same. -/
theorem bl_same (S : Blo p h st B X) (ok : p.Ok 200 8) (hn : ∀ i, i < p.cl → B64 (p.ins i).n) (hk : Known p l) (hc : (checkK p l).1 = 0) (c : Nat) (hl : ∀ k, k < p.cl → (B k).length ≤ c) (top : Nat) : DoesSame p h c top := fun m hf hw f _ => by
 have g : Good p m l := ⟨ok, hn, hf, hk, hc⟩
 exact bl_run S g c hl f (c * f + c) 0 0 _ _ (g.begin_ hw) ⟨S.s0.symm, fun _ _ => rfl, rfl⟩ (by omega)

end
section
variable {p h : Prg} {st : Nat → Nat} {B : Nat → List Ins} {X : Int}
theorem Blo.from_ (S : Blo p h st B X) : ∀ (n : Nat), n ≤ p.cl → ∀ q, q < st n → ∃ k o, k < n ∧ o < (B k).length ∧ q = st k + o
 | 0, _, q, hq => by rw [S.s0] at hq; omega
 | n + 1, hn, q, hq => by
  have e := S.next n (by omega)
  by_cases c : q < st n
  ·obtain ⟨k, o, h1, h2, h3⟩ := S.from_ n (by omega) q c
   exact ⟨k, o, by omega, h2, h3⟩
  ·exact ⟨n, q - st n, by omega, by omega, by omega⟩
end
theorem num_ok {rl : Nat} {log : Nat → Int} {cl : Nat} {a n : Int} (ha : Reg 10 a) (hn : B64 n) : ∀ x ∈ numL a n, InsOk rl log cl 10 x ∧ N14 x.n := by
 intro x hx
 unfold numL at hx
 rcases List.mem_cons.1 hx with rfl | hx
 ·exact ⟨by unfold InsOk Reg; simp, by unfold N14; simp⟩
 ·exact ⟨piece_all (P := fun x => InsOk rl log cl 10 x) (fun n => by unfold InsOk; simp; exact ha) (by unfold InsOk; simp; exact ⟨ha, by unfold Reg; omega⟩) (fun n => by unfold InsOk; simp; exact ha) 4 n x hx, piece_fits a 4 n (lim4 hn).1 (lim4 hn).2 x hx⟩
theorem fitL_ok {rl : Nat} {log : Nat → Int} {cl : Nat} {i : Ins} (hI : InsOk rl log cl 10 i) (hn : B64 i.n) (hN : ¬ i.op = 1 → ¬ i.op = 10 → N14 i.n) : ∀ x ∈ fitL i, InsOk rl log cl 10 x ∧ N14 x.n := by
 intro x hx
 unfold fitL at hx
 split at hx
 ·simp at hx; subst hx; exact ⟨hI, by assumption⟩
 split at hx
 ·rename_i q
  unfold InsOk at hI
  rw [if_pos q] at hI
  exact num_ok hI.1 hn x hx
 split at hx
 ·rename_i q
  unfold InsOk at hI
  simp [q] at hI
  rcases List.mem_append.1 hx with hx | hx
  ·exact num_ok (by unfold Reg; omega) hn x hx
  ·simp at hx; subst hx
   exact ⟨by unfold InsOk; simp; exact ⟨hI.1, hI.2.1, by unfold Reg; omega⟩, by unfold N14; simp⟩
 ·rename_i q1 q2
  simp at hx; subst hx; exact ⟨hI, hN q1 q2⟩

section
variable {p : Prg}
theorem stF_most : ∀ n, n ≤ p.cl → n ≤ stF p n ∧ stF p n ≤ 13 * n
 | 0, _ => ⟨Nat.le_refl _, Nat.le_refl _⟩
 | n + 1, h => by
  have := stF_most n (by omega)
  have := fitB_len (p := p) (k := n)
  rw [stF_next (by omega)]
  omega
theorem fit_each (ok : p.Ok 200 8) (hf : p.Fit) (j : Nat) (hj : j < (fitP (hardP p)).cl) : InsOk p.rl p.log (fitP (hardP p)).cl 10 ((fitP (hardP p)).ins j) ∧ N14 ((fitP (hardP p)).ins j).n := by
 have S := fit_blo ok hf
 rw [S.cl] at hj
 obtain ⟨k, o, hk, ho, rfl⟩ := S.from_ p.cl (Nat.le_refl _) j hj
 have hi := ok.2.2.2 k hk
 have hn : B64 (p.ins k).n := (hf.ins k hk).2.2.2.2
 have e := List.getElem?_eq_getElem ho
 rw [fit_ins ok hk o _ e]
 have hx := List.getElem_mem ho
 generalize (fitB p k)[o] = x at hx
 have c200 := ok.2.2.1
 by_cases m : (p.ins k).op = 3 ∨ (p.ins k).op = 4
 ·rw [fitB_mem m] at hx
  have hr : Reg 8 (p.ins k).a ∧ Reg 8 (p.ins k).b ∧ Rgn p.rl (p.ins k).c := by unfold InsOk at hi; rcases m with m | m <;> simpa [m] using hi
  obtain ⟨ra, rb, rc⟩ := hr
  have hlog := ok.1.2 (p.ins k).c.toNat (by unfold Rgn at rc; omega)
  have h64 : 1 ≤ wordsI (p.log (p.ins k).c.toNat) ∧ wordsI (p.log (p.ins k).c.toNat) ≤ 64 := two_pow_le (by omega)
  unfold Reg at ra rb
  rcases List.mem_append.1 hx with hx | hx
  ·exact fitL_ok (i := ⟨10, 8, (p.ins k).b, 0, (p.ins k).n⟩) (by unfold InsOk Reg; simp; omega) hn (fun _ q => absurd rfl q) x hx
  ·simp at hx
   rcases hx with rfl | rfl
   ·exact ⟨by unfold InsOk Reg; simp; omega, by unfold N14; dsimp only; omega⟩
   ·refine ⟨?_, by unfold N14; simp⟩
    unfold InsOk Reg
    rcases m with m | m <;> simp [m] <;> exact ⟨by omega, rc⟩
 by_cases w : (p.ins k).op = 7 ∨ (p.ins k).op = 8
 ·rw [fitB_go w] at hx
  simp at hx
  subst hx
  have hp : Plc p.cl (p.ins k).n := by unfold InsOk at hi; rcases w with w | w <;> simp [w] at hi <;> simp [hi]
  unfold Plc at hp
  have hlt := S.lt (k := (p.ins k).n.toNat) (o := 0) (by omega) fitB_len.1
  have := (stF_most (p := p) (p.ins k).n.toNat (by omega)).2
  refine ⟨?_, by unfold N14; dsimp only; omega⟩
  unfold InsOk Reg at hi ⊢
  unfold Plc at hi ⊢
  rcases w with w | w <;> simp [w] at hi ⊢ <;> omega
 ·rw [fitB_else m w] at hx
  refine fitL_ok (insOk_up hi (fun _ _ => rfl) w) hn (fun q1 q10 => ?_) x hx
  unfold InsOk at hi
  unfold N14
  have wd : ∀ c : Int, Rgn p.rl c → Wrd p.log c (p.ins k).n → -8192 ≤ (p.ins k).n ∧ (p.ins k).n ≤ 8191 := fun c h1 h2 => by
   unfold Rgn at h1
   unfold Wrd at h2
   have h3 := ok.1.2 c.toNat (by omega)
   have := (two_pow_le (k := (p.log c.toNat).toNat) (by omega)).2
   omega
  rw [if_neg q1] at hi
  by_cases q2 : (p.ins k).op = 2
  ·rw [if_pos q2] at hi; omega
  rw [if_neg q2, if_neg (by omega), if_neg (by omega)] at hi
  by_cases q5 : (p.ins k).op = 5
  ·rw [if_pos q5] at hi; exact wd _ hi.2.2.1 hi.2.2.2
  rw [if_neg q5] at hi
  by_cases q6 : (p.ins k).op = 6
  ·rw [if_pos q6] at hi; exact wd _ hi.2.2.1 hi.2.2.2
  rw [if_neg q6, if_neg (by omega), if_neg (by omega)] at hi
  by_cases q9 : (p.ins k).op = 9
  ·rw [if_pos q9] at hi; omega
  rw [if_neg q9, if_neg q10] at hi
  by_cases q11 : (p.ins k).op = 11
  ·rw [if_pos q11] at hi; omega
  rw [if_neg q11] at hi
  by_cases q12 : (p.ins k).op = 12
  ·rw [if_pos q12] at hi; omega
  ·rw [if_neg q12] at hi; omega
theorem fit_ok (ok : p.Ok 200 8) (hf : p.Fit) : (fitP (hardP p)).Ok 8000 10 := by
 have h1 := stF_most p.cl (Nat.le_refl _)
 have h2 := ok.2.1
 have h3 := ok.2.2.1
 have e : (fitP (hardP p)).cl = stF p p.cl := rfl
 exact ⟨ok.1, by rw [e]; omega, by rw [e]; omega, fun i hi => (fit_each ok hf i hi).1⟩
theorem fit_room (ok : p.Ok 200 8) (hf : p.Fit) : ∀ j, j < (fitP (hardP p)).cl → N14 ((fitP (hardP p)).ins j).n := fun j hj => (fit_each ok hf j hj).2

/-- The loaded program of one without fault. -/
def LoadOf (p h : Prg) : Prop := p.Ok 200 8 ∧ (∃ lk, Known p lk ∧ (checkK p lk).1 = 0) ∧ h = backP (fitP (hardP p))
theorem load_blo (ok : p.Ok 200 8) (hf : p.Fit) : Blo p (backP (fitP (hardP p))) (stF p) (fitB p) 8 := by
 have S := fit_blo ok hf
 exact ⟨S.x, S.rl, S.reg, S.s0, S.next, S.cl, S.ne, fun k hk o i e => (back_ins (fit_ok ok hf) (fit_room ok hf) (S.lt hk (List.getElem?_eq_some_iff.1 e).1)).trans (S.at_ k hk o i e), S.go, S.one, S.mem, S.ops⟩
theorem loadOf_like {h : Prg} (hf : p.Fit) (k : LoadOf p h) : Like8 p h := by
 obtain ⟨ok, _, rfl⟩ := k
 have h1 := stF_most p.cl (Nat.le_refl _)
 have h3 := ok.2.2.1
 have i14 : ∀ x, N14 x → I64 x := fun x q => by unfold N14 at q; unfold I64; omega
 refine ⟨back_ok (fit_ok ok hf) (fit_room ok hf), ⟨hf.rl, ?_, hf.log, fun i hi => ?_⟩, rfl, fun i hi => ⟨rfl, rfl⟩⟩
 ·have : 3000 ≤ maxLen := by decide
  show stF p p.cl ≤ maxLen
  omega
 ·have hi' : i < (fitP (hardP p)).cl := hi
  rw [back_ins (fit_ok ok hf) (fit_room ok hf) hi']
  obtain ⟨h1, h2⟩ := fit_each ok hf i hi'
  obtain ⟨⟨a0, a1⟩, ⟨b0, b1⟩, ⟨c0, c1⟩, ⟨d0, d1⟩⟩ := small_of ok.1.1 h1
  exact ⟨by unfold I64; omega, by unfold I64; omega, by unfold I64; omega, by unfold I64; omega, i14 _ h2⟩
theorem loadOf_same {h : Prg} (hf : p.Fit) (k : LoadOf p h) (top : Nat) : DoesSame p h 30 top := by
 obtain ⟨ok, ⟨lk, hk, hc⟩, rfl⟩ := k
 exact bl_same (load_blo ok hf) ok (fun i hi => (hf.ins i hi).2.2.2.2) hk hc 30 (fun k _ => by have := fitB_len (p := p) (k := k); omega) top
end
end
section
open Go.RowKit
set_option linter.unusedSimpArgs false
set_option linter.unusedVariables false
set_option maxRecDepth 8000
theorem mask32 (x : Int) (k : Nat) (m n : Int) (h : W32 x) (hk : k ≤ 14) (em : m = ((2 ^ k - 1 : Nat) : Int)) (en : n = ((2 ^ k : Nat) : Int)) : bits .and .u32 x m = x % n := by
 unfold W32 at h
 obtain ⟨X, rfl⟩ := Int.eq_ofNat_of_zero_le h.1
 have h2 : 2 ^ k ≤ 2 ^ 14 := Nat.pow_le_pow_right (by decide) hk
 subst em en
 rw [u32_and_nat X _ (by omega) (by omega), Nat.and_two_pow_sub_one_eq_mod]
 rfl
theorem or32 (x y : Int) (k X Y : Nat) (hx : x = ((2 ^ k * X : Nat) : Int)) (hy : y = (Y : Int)) (h1 : 2 ^ k * X < 4294967296) (h2 : Y < 2 ^ k) (hk : k ≤ 30) : bits .or .u32 x y = x + y := by
 have h3 : 2 ^ k ≤ 2 ^ 30 := Nat.pow_le_pow_right (by decide) hk
 subst hx hy
 rw [u32_or_nat _ _ h1 (by omega), ← Nat.two_pow_add_eq_or_of_lt h2]
 push_cast
 rfl

/-- The word that written makes. -/
theorem enc_bits {op a b c n : Int} (s : Small ⟨op, a, b, c, n⟩) (hn : N14 n) :
  bits BinOp.or IntKind.u32 (bits BinOp.or IntKind.u32 (bits BinOp.or IntKind.u32 (bits BinOp.or IntKind.u32 (op % 4294967296 * 67108864 % 4294967296) (a % 4294967296 * 4194304 % 4294967296)) (b % 4294967296 * 262144 % 4294967296)) (c % 4294967296 * 16384 % 4294967296)) (bits BinOp.and IntKind.u32 (n % 4294967296) 16383) = encW ⟨op, a, b, c, n⟩ := by
 obtain ⟨⟨o0, o1⟩, ⟨a0, a1⟩, ⟨b0, b1⟩, ⟨c0, c1⟩⟩ := s
 dsimp only at o0 o1 a0 a1 b0 b1 c0 c1
 unfold N14 at hn
 have e0 : bits .and .u32 (n % 4294967296) 16383 = (if n < 0 then n + 16384 else n) := by
  rw [mask32 (n % 4294967296) 14 16383 16384 (by unfold W32; omega) (by decide) (by decide) (by decide)]
  split <;> omega
 have e1 : op % 4294967296 * 67108864 % 4294967296 = op * 67108864 := by omega
 have e2 : a % 4294967296 * 4194304 % 4294967296 = a * 4194304 := by omega
 have e3 : b % 4294967296 * 262144 % 4294967296 = b * 262144 := by omega
 have e4 : c % 4294967296 * 16384 % 4294967296 = c * 16384 := by omega
 have hm : ∃ M : Nat, (if n < 0 then n + 16384 else n) = (M : Int) ∧ M < 16384 := by
  by_cases h : n < 0
  ·rw [if_pos h]; exact ⟨(n + 16384).toNat, by omega, by omega⟩
  ·rw [if_neg h]; exact ⟨n.toNat, by omega, by omega⟩
 rw [e0, e1, e2, e3, e4]
 unfold encW
 dsimp only
 obtain ⟨M, hM, hM1⟩ := hm
 rw [hM]
 obtain ⟨O, rfl⟩ := Int.eq_ofNat_of_zero_le o0
 obtain ⟨A, rfl⟩ := Int.eq_ofNat_of_zero_le a0
 obtain ⟨B, rfl⟩ := Int.eq_ofNat_of_zero_le b0
 obtain ⟨C, rfl⟩ := Int.eq_ofNat_of_zero_le c0
 rw [or32 ((O : Int) * 67108864) ((A : Int) * 4194304) 26 O (A * 4194304) (by omega) (by omega) (by omega) (by omega) (by decide),
  or32 _ ((B : Int) * 262144) 22 (O * 16 + A) (B * 262144) (by omega) (by omega) (by omega) (by omega) (by decide),
  or32 _ ((C : Int) * 16384) 18 ((O * 16 + A) * 16 + B) (C * 16384) (by omega) (by omega) (by omega) (by omega) (by decide),
  or32 _ (M : Int) 14 (((O * 16 + A) * 16 + B) * 16 + C) M (by omega) rfl (by omega) (by omega) (by decide)]
 omega

theorem written_calls (op a b c n : Int) (w : World) (s : Small ⟨op, a, b, c, n⟩) (hn : N14 n) :
  Calls Try.prog 33 #[.agg #[.int .i64 op, .int .i64 a, .int .i64 b, .int .i64 c, .int .i64 n]] w fun e w' => e = .returned (.int .u32 (encW ⟨op, a, b, c, n⟩)) ∧ More w w' := by
 have H := enc_bits s hn
 obtain ⟨u, hu⟩ : ∃ x, encW ⟨op, a, b, c, n⟩ = x := ⟨_, rfl⟩
 rw [hu] at H ⊢
 have HH : Hid (_ = u) := H
 clear s hn hu H
 go_enter Try.func33, Try.ntmps33
 go_wp2
 go_ret
 rw [← HH.out]
 exact ⟨rfl, (More.refl _).alloc _ _⟩
theorem hard_calls (p : Prg) (l : Loc) (w : World) (h : PIn w p l) :
  Calls Try.prog 32 #[.agg #[.slice l.ra p.rl l.rc, .slice l.ca p.cl l.cc]] w (Says (p.Ok 8000 10) w) := by
 have H : Hid (PIn w p l) := h
 clear h
 go_enter Try.func32, Try.ntmps32
 go_wp2_with (fail)
 have m0 : More w (w.alloc (.cells #[.slice l.ra p.rl l.rc, .slice l.ca p.cl l.cc] 25)) := (More.refl _).alloc _ _
 refine (allowed_calls l.ra p.rl l.rc l.ca p.cl l.cc 8000 10 l.rb l.ro l.cb l.co p.log p.sec p.ins _ 8000 rfl (by omega) H.out.hr (H.out.regs.more m0) H.out.hc (H.out.code.more m0)).mono ?_
 rintro e w1 ⟨r, rfl, h1, m1⟩
 have H1 : Hid ((r = true ↔ p.Ok 8000 10) ∧ More w w1) := ⟨h1, m0.trans m1⟩
 clear h1 m1 m0
 go_wp2
 go_ret
 exact ⟨r, rfl, H1.out.1, H1.out.2⟩
/-- What the row of words holds. -/
def wordsF (p : Prg) (k j : Nat) : Value := .int .u32 (if j < k then encW (p.ins j) else 0)

/-- Where the loop stands. -/
structure P7 (w : World) (p : Prg) (rv cv : Value) (g k : Nat) (wr : World) : Prop where
 box : Blk wr w.heap.size #[rv, cv] 25
 res : Blk wr (w.heap.size + 1) #[.int .i64 0, .int .i64 0] 29
 row : ∀ j, j < p.cl → Wr wr g j (wordsF p k j)
 lo : w.heap.size + 2 ≤ g
 hi : g < wr.heap.size
 ok : ∀ j, j < k → N14 (p.ins j).n
 more : More w wr

theorem P7.step {w : World} {p : Prg} {rv cv : Value} {g k : Nat} {wr w1 w2 : World} (h : P7 w p rv cv g k wr) (m1 : More wr w1) (hn : N14 (p.ins k).n) (e2 : w2 = w1.setCell ⟨g, k, none⟩ (.int .u32 (encW (p.ins k)))) : P7 w p rv cv g (k + 1) w2 := by
 have hlo := h.lo
 subst e2
 refine ⟨(h.box.more m1).other (by omega) _ _, (h.res.more m1).other (by omega) _ _, fun j hj => ?_, hlo, ?_, fun j hj => ?_, (h.more.trans m1).setCell (by show w.heap.size ≤ g; omega) _⟩
 ·have h1 := (h.row j hj).kept (m1.grow none) (by simp)
  by_cases e : j = k
  ·subst e
   have h2 := h1.same (.int .u32 (encW (p.ins j)))
   unfold wordsF
   rw [if_pos (by omega)]
   exact h2
  ·have h2 := h1.other g k (.int .u32 (encW (p.ins k))) (.inr (fun q => e q.symm))
   have e2 : wordsF p (k + 1) j = wordsF p k j := by
    unfold wordsF
    by_cases q : j < k
    ·rw [if_pos q, if_pos (by omega)]
    ·rw [if_neg q, if_neg (by omega)]
   rw [e2]
   exact h2
 ·have := m1.size; have := h.hi; simp; omega
 ·by_cases e : j = k
  ·subst e; exact hn
  ·exact h.ok j (by omega)

set_option maxHeartbeats 2000000 in
theorem put_calls (p : Prg) (l : Loc) (w : World) (hp : PIn w p l) : Calls Try.prog 12 #[.agg #[.slice l.ra p.rl l.rc, .slice l.ca p.cl l.cc]] w (PutAns p w) := by
 have CH : Hid (∀ w1 : World, More w w1 → Calls Try.prog 32 #[.agg #[.slice l.ra p.rl l.rc, .slice l.ca p.cl l.cc]] w1 fun e w' => ∃ r : Bool, e = .returned (.bool r) ∧ (r = true ↔ p.Ok 8000 10) ∧ More w1 w') := fun w1 m1 => hard_calls p l w1 (hp.more m1)
 have Hp : Hid (PIn w p l) := hp
 clear hp
 obtain ⟨ra, Hra⟩ : ∃ x, Hid (l.ra = x) := ⟨_, rfl⟩
 obtain ⟨rl, Hrl⟩ : ∃ x, Hid (p.rl = x) := ⟨_, rfl⟩
 obtain ⟨rc, Hrc⟩ : ∃ x, Hid (l.rc = x) := ⟨_, rfl⟩
 obtain ⟨ca, Hca⟩ : ∃ x, Hid (l.ca = x) := ⟨_, rfl⟩
 obtain ⟨cl, Hcl⟩ : ∃ x, Hid (p.cl = x) := ⟨_, rfl⟩
 obtain ⟨cc, Hcc⟩ : ∃ x, Hid (l.cc = x) := ⟨_, rfl⟩
 rw [Hra.out, Hrl.out, Hrc.out, Hca.out, Hcl.out, Hcc.out] at CH ⊢
 obtain ⟨W0, HW0⟩ : ∃ W : World, Hid (W = (w.alloc (.cells #[.slice ra rl rc, .slice ca cl cc] 25)).alloc (.cells #[.int .i64 0, .int .i64 0] 29)) := ⟨_, rfl⟩
 have Hm0 : Hid (More w W0) := by rw [HW0.out]; exact ((More.refl _).alloc _ _).alloc _ _
 have B0 : Hid (Blk W0 w.heap.size #[.slice ra rl rc, .slice ca cl cc] 25) := by rw [HW0.out]; exact (Blk.last _ _ _).alloc _ _
 have B1 : Hid (Blk W0 (w.heap.size + 1) #[.int .i64 0, .int .i64 0] 29) := by rw [HW0.out]; show Blk _ _ _ _; simpa using Blk.last (w.alloc (.cells #[.slice ra rl rc, .slice ca cl cc] 25)) #[.int .i64 0, .int .i64 0] 29
 go_enter Try.func12, Try.ntmps12
 go_wp2_with (fail)
 rw [← HW0.out]
 have b0 : W0.cell? ⟨w.heap.size, 0, none⟩ = some (.slice ra rl rc) := B0.out.cell rfl
 have b1 : W0.cell? ⟨w.heap.size, 1, none⟩ = some (.slice ca cl cc) := B0.out.cell rfl
 go_wp2_with (fail)
 refine (CH.out W0 Hm0.out).mono ?_
 rintro e w1 ⟨r, rfl, hr, m1⟩
 have Hm1 : Hid (More W0 w1) := m1
 have D0 : Hid (Blk w1 w.heap.size #[.slice ra rl rc, .slice ca cl cc] 25) := B0.out.more m1
 have D1 : Hid (Blk w1 (w.heap.size + 1) #[.int .i64 0, .int .i64 0] 29) := B1.out.more m1
 clear m1 CH B0 B1 b0 b1
 have a2 : w1.cell? ⟨w.heap.size + 1, 0, none⟩ = some (.int .i64 0) := D1.out.cell rfl
 have a3 : w1.cell? ⟨w.heap.size + 1, 1, none⟩ = some (.int .i64 0) := D1.out.cell rfl
 have z2 := D1.out.frozen 0
 have z3 := D1.out.frozen 1
 cases r with
 | false =>
  have Hno : Hid (¬ p.Ok 8000 10) := fun h => by simpa using hr.2 h
  clear hr
  go_wp2
  refine bodyPost_ret (v := .tuple #[.slice none 0 0, .agg #[.int .i64 2, .int .i64 0]]) (by simp [results, Try.results12, go_sem, *]) rfl ?_
  refine ⟨(2, 0), .inl ⟨Hno.out, rfl⟩, ?_, .inr ⟨by decide, rfl⟩⟩
  exact ((Hm0.out.trans Hm1.out).setCell (by show w.heap.size ≤ _; simp) _).setCell (by show w.heap.size ≤ _; simp) _
 | true =>
  have Hok : Hid (p.Ok 8000 10) := hr.1 rfl
  clear hr a2 a3 z2 z3
  have hcl0 := Hok.out.2.1
  have hcl1 := Hok.out.2.2.1
  have hca := Hp.out.hc (by omega)
  rw [Hcl.out] at hcl0 hcl1
  obtain ⟨cb, Hcb⟩ : ∃ x, Hid (l.cb = x) := ⟨_, rfl⟩
  obtain ⟨co, Hco⟩ : ∃ x, Hid (l.co = x) := ⟨_, rfl⟩
  rw [Hca.out, Hcb.out, Hco.out] at hca
  subst hca
  have HC : Hid (∀ w1 : World, More w w1 → CodeAt w1 cb co cl p.ins) := fun w1 m1 => by
   have := Hp.out.code.more m1
   rw [Hcb.out, Hco.out, Hcl.out] at this
   exact this
  have b0 : w1.cell? ⟨w.heap.size, 0, none⟩ = some (.slice ra rl rc) := D0.out.cell rfl
  have b1 : w1.cell? ⟨w.heap.size, 1, none⟩ = some (.slice (some ⟨cb, co, none⟩) cl cc) := D0.out.cell rfl
  have hmk := run_make_row' (P := Try.prog) 26 80 (.int .u32 0) 4 Try.underlying26 info40 rfl .i64 .i64 cl (by omega) (by omega)
  obtain ⟨w2, Hw2⟩ : ∃ w_ : World, Hid (w_ = w1.alloc (.cells (madeCells #[.int .u32 0] cl) 80)) := ⟨_, rfl⟩
  obtain ⟨g0, Hg0⟩ : ∃ x, Hid (x = w1.heap.size) := ⟨_, rfl⟩
  have HS0 : Hid (P7 w p (.slice ra rl rc) (.slice (some ⟨cb, co, none⟩) cl cc) g0 0 w2) := by
   have hsz := D1.out.lt
   have e := Hg0.out
   rw [Hw2.out]
   refine ⟨D0.out.alloc _ _, D1.out.alloc _ _, fun j hj => ?_, by omega, by rw [e]; simp, fun j hj => absurd hj (Nat.not_lt_zero _), (Hm0.out.trans Hm1.out).alloc _ _⟩
   rw [Hcl.out] at hj
   have hb := Blk.last w1 (madeCells #[.int .u32 0] cl) 80
   rw [e]
   refine ⟨hb.cell ?_, hb.frozen _⟩
   rw [made1_at _ _ _ hj]
   rfl
  have zlt := D0.out.lt
  go_wp2_with (fail)
  rw [← Hw2.out, ← Hg0.out]
  clear hmk b0 b1 zlt
  go_loopg [18] cl (fun g iv wr => ∃ (k : Nat), k + g = cl ∧ iv = .int .i64 k ∧ Hid (P7 w p (.slice ra rl rc) (.slice (some ⟨cb, co, none⟩) cl cc) g0 k wr))
  case atStart => exact ⟨0, by omega, rfl, HS0.out⟩
  case round =>
   obtain ⟨k, hkg, rfl, Hr⟩ := hrel
   clear HS0
   have a2 : wr.cell? ⟨w.heap.size + 1, 0, none⟩ = some (.int .i64 0) := Hr.out.res.cell rfl
   have a3 : wr.cell? ⟨w.heap.size + 1, 1, none⟩ = some (.int .i64 0) := Hr.out.res.cell rfl
   have z0 := Hr.out.res.lt
   have z2 := Hr.out.res.frozen 0
   have z3 := Hr.out.res.frozen 1
   cases gk with
   | zero =>
    obtain rfl : k = cl := by omega
    go_wp2
    refine bodyPost_ret (v := .tuple #[.slice (some ⟨g0, 0, none⟩) k k, .agg #[.int .i64 0, .int .i64 0]]) (by simp [results, Try.results12, go_sem, *]) rfl ?_
    have hlo := Hr.out.lo
    refine ⟨(0, 0), .inr (.inr ⟨Hok.out, fun j hj => Hr.out.ok j (by rw [← Hcl.out]; exact hj), rfl⟩), ?_, .inl ⟨rfl, g0, k, by rw [Hcl.out], by omega, fun i hi => ?_⟩⟩
    ·exact (Hr.out.more.setCell (by show w.heap.size ≤ _; simp) _).setCell (by show w.heap.size ≤ _; simp) _
    ·have h1 := (((Hr.out.row i hi).other (w.heap.size + 1) 0 (.int .i64 0) (.inl (by omega))).other (w.heap.size + 1) 1 (.int .i64 0) (.inl (by omega))).1
     rw [Nat.zero_add, h1]
     rw [Hcl.out] at hi
     unfold wordsF
     rw [if_pos hi]
   | succ g =>
    have hk : k < cl := by omega
    have hki : (k : Int) < cl := by omega
    have hk63 : wrap64 ((k : Int) + 1) = (k : Int) + 1 := by unfold wrap64; omega
    obtain ⟨q0, q1, q2, q3, q4⟩ := HC.out wr Hr.out.more k hk
    have hsm : Small (p.ins k) := small_of Hok.out.1.1 (Hok.out.2.2.2 k (by rw [Hcl.out]; exact hk))
    have Hst : Hid (∀ (w1 w2 : World), More wr w1 → N14 (p.ins k).n → w2 = w1.setCell ⟨g0, k, none⟩ (.int .u32 (encW (p.ins k))) → P7 w p (.slice ra rl rc) (.slice (some ⟨cb, co, none⟩) cl cc) g0 (k + 1) w2) := fun w1 w2 m1 hn e => Hr.out.step m1 hn e
    have Hrow : Hid (∀ w1 : World, More wr w1 → Wr w1 g0 k (wordsF p k k)) := fun w1 m1 => (Hr.out.row k (by rw [Hcl.out]; exact hk)).kept (m1.grow none) (by simp)
    have Hbad : Hid (¬ N14 (p.ins k).n → PutR p (3, (k : Int))) := fun h => .inr (.inl ⟨Hok.out, k, by rw [Hcl.out]; exact hk, Hr.out.ok, h, rfl⟩)
    obtain ⟨⟨op, a, b, c, n⟩, HI⟩ : ∃ x, Hid (p.ins k = x) := ⟨_, rfl⟩
    rw [HI.out] at q0 q1 q2 q3 q4 hsm Hbad Hst
    dsimp only at q0 q1 q2 q3 q4 Hbad
    have Hsm : Hid (Small ⟨op, a, b, c, n⟩) := hsm
    clear hsm
    by_cases hn : N14 n
    ·have hn' := hn
     obtain ⟨n0, n1⟩ := hn'
     have d1 : decide (n < -8192) = false := by simp; omega
     have d2 : decide (8191 < n) = false := by simp; omega
     have HN : Hid (N14 n) := hn
     clear hn Hbad n0 n1
     go_wp2_with (fail)
     refine (written_calls op a b c n _ Hsm.out HN.out).mono ?_
     rintro e w3 ⟨rfl, m3⟩
     have Hm3 : Hid (More wr w3) := ((More.refl _).alloc _ _).trans m3
     clear m3
     obtain ⟨x1, x2⟩ := Hrow.out w3 Hm3.out
     obtain ⟨u, Hu⟩ : ∃ x, Hid (encW ⟨op, a, b, c, n⟩ = x) := ⟨_, rfl⟩
     rw [Hu.out] at Hst ⊢
     have Hn3 : Hid (P7 w p (.slice ra rl rc) (.slice (some ⟨cb, co, none⟩) cl cc) g0 (k + 1) (w3.setCell ⟨g0, k, none⟩ (.int .u32 u))) := Hst.out w3 _ Hm3.out HN.out rfl
     clear Hst
     go_wp2
     go_roundg g
     case measure => omega
     case rel => exact ⟨k + 1, by omega, by first | rfl | simp, Hn3.out⟩
    ·have HB : Hid (PutR p (3, (k : Int))) := Hbad.out hn
     have Hmr : Hid (More w wr) := Hr.out.more
     clear Hbad Hst Hrow
     have Hfin : Hid (∀ w' : World, w' = ((wr.setCell ⟨w.heap.size + 1, 0, none⟩ (.int .i64 3)).setCell ⟨w.heap.size + 1, 1, none⟩ (.int .i64 (k : Int))).alloc (.cells #[.int .i64 op, .int .i64 a, .int .i64 b, .int .i64 c, .int .i64 n] 55) → PutAns p w (.returned (.tuple #[.slice none 0 0, .agg #[.int .i64 3, .int .i64 (k : Int)]])) w') := fun w' e => by
      refine ⟨(3, (k : Int)), HB.out, ?_, .inr ⟨by show ¬ (3 : Int) = 0; decide, rfl⟩⟩
      rw [e]
      exact ((Hmr.out.setCell (by show w.heap.size ≤ _; simp) _).setCell (by show w.heap.size ≤ _; simp) _).alloc _ _
     by_cases h1 : n < -8192
     ·have d1 : decide (n < -8192) = true := by simp [h1]
      clear hn
      go_wp2
      refine bodyPost_ret (v := .tuple #[.slice none 0 0, .agg #[.int .i64 3, .int .i64 (k : Int)]]) (by simp [results, Try.results12, go_sem, *]) rfl (Hfin.out _ rfl)
     ·have d1 : decide (n < -8192) = false := by simp [h1]
      have d2 : decide (8191 < n) = true := by unfold N14 at hn; simp; omega
      clear hn h1
      go_wp2
      refine bodyPost_ret (v := .tuple #[.slice none 0 0, .agg #[.int .i64 3, .int .i64 (k : Int)]]) (by simp [results, Try.results12, go_sem, *]) rfl (Hfin.out _ rfl)
end
end Go.Proofs.Ytlbfbjeilfcjeaa
