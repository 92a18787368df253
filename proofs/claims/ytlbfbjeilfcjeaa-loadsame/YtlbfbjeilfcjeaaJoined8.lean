/-
  The texts CkCheck, RefSame, HdLaw, HdDoes, HdLike, HdPlain, WdPlain, LdFit, RPlace, HdMask, HdCode, one behind the other, with what is used of them.
-/
import Derived.Test.YtlbfbjeilfcjeaaJoined7
import Derived.Test.YtlbfbjeilfcjeaaRows
import Derived.WalkKit
import Derived.Deep.LoopGhost
import Derived.Test.YtlbfbjeilfcjeaaJoined0
import Derived.Test.YtlbfbjeilfcjeaaJoined6
import Derived.Test.YtlbfbjeilfcjeaaJoined5
import Derived.Deep.AppendLies
import Derived.Laws.AppendOwnNone
import Derived.Test.YtlbfbjeilfcjeaaProg
import Derived.Deep.OwnRows
namespace Go.Proofs.Ytlbfbjeilfcjeaa
section
open Go.RowKit
set_option linter.unusedSimpArgs false
set_option linter.unusedVariables false
set_option maxRecDepth 8000
/-- A lead is to where no instruction is just if the instruction leads there. -/
theorem out_iff {p : Prg} {at_ : Nat} (hi : InsOk p.rl p.log p.cl 8 (p.ins at_)) (s : KS) : (∃ (i : Nat) (x : Nat × KS), (leadsK p at_ s)[i]? = some x ∧ p.cl ≤ x.1) ↔ outK p at_ = true := by
 unfold outK
 have hI := hi
 unfold InsOk Plc at hI
 constructor
 ·rintro ⟨i, x, hx, hc⟩
  have hm := List.mem_of_getElem? hx
  unfold leadsK at hm
  by_cases h7 : (p.ins at_).op = 7
  ·rw [if_pos h7] at hm
   simp [h7] at hI
   simp at hm; subst hm; dsimp only at hc; omega
  rw [if_neg h7] at hm
  by_cases h9 : (p.ins at_).op = 9
  ·rw [if_pos h9] at hm; simp at hm
  rw [if_neg h9] at hm
  by_cases h8 : (p.ins at_).op = 8
  ·rw [if_pos h8] at hm
   simp [h8] at hI
   simp at hm
   rcases hm with rfl | rfl
   ·dsimp only at hc; omega
   ·simp [h7, h9]; exact hc
  ·rw [if_neg h8] at hm
   simp at hm; subst hm
   simp [h7, h9]; exact hc
 ·intro h
  simp at h
  obtain ⟨h7, h9, hc⟩ := h
  unfold leadsK
  rw [if_neg h7, if_neg h9]
  by_cases h8 : (p.ins at_).op = 8
  ·rw [if_pos h8]; exact ⟨1, _, rfl, hc⟩
  ·rw [if_neg h8]; exact ⟨0, _, rfl, hc⟩

/-- A fault, as a value. -/
abbrev flt (c a : Int) : Value := .agg #[.int .i64 c, .int .i64 a]

theorem check6_form (rv cv : Value) (hrv : ∃ a n c, rv = .slice a n c) (hcv : ∃ a n c, cv = .slice a n c) (w : World) (cm : ∀ w1 : World, More w w1 → Calls Try.prog 14 #[.agg #[rv, cv]] w1 fun e w' => e = .returned (.bool false) ∧ More w1 w') :
  Calls Try.prog 6 #[.agg #[rv, cv]] w fun e w' => e = .returned (flt 2 0) ∧ More w w' := by
 obtain ⟨a, n, c, rfl⟩ := hrv
 obtain ⟨a2, n2, c2, rfl⟩ := hcv
 unfold flt
 go_enter Try.func6, Try.ntmps6
 go_wp2_with (fail)
 refine (cm _ (((More.refl _).alloc _ _).alloc _ _)).mono ?_
 rintro e w1 ⟨rfl, m1⟩
 have Hres : Hid (Blk w1 (w.heap.size + 1) #[.int .i64 0, .int .i64 0] 29) := (by simpa using Blk.last (w.alloc (.cells #[.slice a n c, .slice a2 n2 c2] 25)) #[.int .i64 0, .int .i64 0] 29 : Blk ((w.alloc (.cells #[.slice a n c, .slice a2 n2 c2] 25)).alloc (.cells #[.int .i64 0, .int .i64 0] 29)) (w.heap.size + 1) #[.int .i64 0, .int .i64 0] 29).more m1
 have Hm1 : Hid (More w w1) := (((More.refl _).alloc _ _).alloc _ _).trans m1
 clear m1
 have t0 := Hres.out.cell (j := 0) (v := .int .i64 0) rfl
 have t1 := Hres.out.cell (j := 1) (v := .int .i64 0) rfl
 have u0 := Hres.out.frozen 0
 have u1 := Hres.out.frozen 1
 go_wp2
 exact bodyPost_ret (by simp [results, Try.results6, go_sem, *]) rfl ⟨rfl, (Hm1.out.setCell (by dsimp only; omega) _).setCell (by dsimp only; omega) _⟩

set_option maxHeartbeats 8000000 in
theorem check6_ok (p : Prg) (lo : Loc) (w : World) (hp : PIn w p lo) (hok : p.Ok 200 8) (hn : ∀ i, i < p.cl → -9223372036854775808 ≤ (p.ins i).n ∧ (p.ins i).n ≤ 9223372036854775807)
  (cm : ∀ w1 : World, More w w1 → Calls Try.prog 14 #[.agg #[.slice lo.ra p.rl lo.rc, .slice lo.ca p.cl lo.cc]] w1 fun e w' => e = .returned (.bool true) ∧ More w1 w') :
  Calls Try.prog 6 #[.agg #[.slice lo.ra p.rl lo.rc, .slice lo.ca p.cl lo.cc]] w fun e w' => ∃ l, Known p l ∧ e = .returned (flt (checkK p l).1 (checkK p l).2) ∧ More w w' := by
 suffices hP : ∀ P : Ending → World → Prop, (∀ l, Known p l → ∀ w', More w w' → P (.returned (flt (checkK p l).1 (checkK p l).2)) w') → Calls Try.prog 6 #[.agg #[.slice lo.ra p.rl lo.rc, .slice lo.ca p.cl lo.cc]] w P from hP _ (fun l h1 w' h2 => ⟨l, h1, rfl, h2⟩)
 intro P hP0
 have HP : Hid (∀ l, Known p l → ∀ w', More w w' → P (.returned (flt (checkK p l).1 (checkK p l).2)) w') := hP0
 have H : Hid (PIn w p lo ∧ p.Ok 200 8 ∧ ∀ i, i < p.cl → -9223372036854775808 ≤ (p.ins i).n ∧ (p.ins i).n ≤ 9223372036854775807) := ⟨hp, hok, hn⟩
 have h1 : 1 ≤ p.cl := hok.2.1
 have h2 : p.cl ≤ 200 := hok.2.2.1
 have hi1 : (1 : Int) ≤ p.cl := by omega
 have hi2 : (p.cl : Int) ≤ 200 := by omega
 clear hP0 hp hok hn
 have HS0 : Hid (∀ w1 : World, More w w1 → Calls Try.prog 15 #[.agg #[.slice lo.ra p.rl lo.rc, .slice lo.ca p.cl lo.cc]] w1 fun e w' => ∃ lb l, e = .returned (.slice (some ⟨lb, 0, none⟩) p.cl p.cl) ∧ VAt w' lb p.cl l ∧ Known p l ∧ More w1 w') := fun w1 m => states_calls p lo w1 (H.out.1.more m) H.out.2.1 H.out.2.2
 obtain ⟨cl, hcl⟩ : ∃ cl, p.cl = cl := ⟨_, rfl⟩
 have Hcl : Hid (p.cl = cl) := hcl
 rw [hcl] at h1 h2 hi1 hi2 cm ⊢
 have HSt : Hid (∀ w1 : World, More w w1 → Calls Try.prog 15 #[.agg #[.slice lo.ra p.rl lo.rc, .slice lo.ca cl lo.cc]] w1 fun e w' => ∃ lb l, e = .returned (.slice (some ⟨lb, 0, none⟩) cl cl) ∧ VAt w' lb p.cl l ∧ Known p l ∧ More w1 w') := by
  have := HS0.out
  rw [hcl] at this
  rw [hcl]; exact this
 have Hcm : Hid (∀ w1 : World, More w w1 → Calls Try.prog 14 #[.agg #[.slice lo.ra p.rl lo.rc, .slice lo.ca cl lo.cc]] w1 fun e w' => e = .returned (.bool true) ∧ More w1 w') := cm
 clear hcl HS0 cm
 obtain ⟨ra, rb, ro, rc, ca, cb, co, cc⟩ := lo
 dsimp only at HSt Hcm ⊢
 obtain rfl : ca = some ⟨cb, co, none⟩ := H.out.1.hc (by have := Hcl.out; omega)
 obtain ⟨W0, HW0⟩ : ∃ W0 : World, Hid (W0 = (w.alloc (.cells #[.slice ra p.rl rc, .slice (some ⟨cb, co, none⟩) cl cc] 25)).alloc (.cells #[.int .i64 0, .int .i64 0] 29)) := ⟨_, rfl⟩
 have HM0 : Hid (More w W0) := HW0.out ▸ ((More.refl _).alloc _ _).alloc _ _
 have HBX : Hid (Blk W0 w.heap.size #[.slice ra p.rl rc, .slice (some ⟨cb, co, none⟩) cl cc] 25) := HW0.out ▸ (Blk.last _ _ _).more ((More.refl _).alloc _ _)
 have HRES : Hid (Blk W0 (w.heap.size + 1) #[.int .i64 0, .int .i64 0] 29) := by
  show Blk _ _ _ _
  rw [HW0.out]
  simpa using Blk.last (w.alloc (.cells #[.slice ra p.rl rc, .slice (some ⟨cb, co, none⟩) cl cc] 25)) #[.int .i64 0, .int .i64 0] 29
 go_enter Try.func6, Try.ntmps6
 go_wp2_with (fail)
 rw [← HW0.out]
 refine (Hcm.out _ HM0.out).mono ?_
 rintro e w1 ⟨rfl, m1⟩
 have HM1 : Hid (More W0 w1) := m1
 clear m1
 have p0 : w1.cell? ⟨w.heap.size, 0, none⟩ = some (.slice ra p.rl rc) := (HBX.out.more HM1.out).cell rfl
 have p1 : w1.cell? ⟨w.heap.size, 1, none⟩ = some (.slice (some ⟨cb, co, none⟩) cl cc) := (HBX.out.more HM1.out).cell rfl
 go_wp2_with (fail)
 refine (HSt.out _ (HM0.out.trans HM1.out)).mono ?_
 rintro e w2 ⟨lb, L, rfl, hv, hkn, m2⟩
 have HV2 : Hid (VAt w2 lb p.cl L ∧ Known p L) := ⟨hv, hkn⟩
 have HM2 : Hid (More W0 w2) := HM1.out.trans m2
 clear m2 hv hkn p0 p1
 go_wp2_with (fail)
 go_loopg [4] cl (fun g iv wr => ∃ k : Nat, k + g = cl ∧ iv = .int .i64 k ∧ Hid (More w2 wr ∧ checkK p L = scanK p L g k))
 case atStart => exact ⟨0, by omega, rfl, More.refl _, by unfold checkK; rw [Hcl.out]⟩
 case round =>
  obtain ⟨k, hkg, rfl, HR⟩ := hrel
  obtain ⟨wm, rfl⟩ : ∃ wm, wm = wr := ⟨wr, rfl⟩
  have HMm : Hid (More W0 wm) := HM2.out.trans HR.out.1
  have HVm : Hid (VAt wm lb p.cl L) := HV2.out.1.more HR.out.1 (by have := Hcl.out; omega)
  have Hsc : Hid (checkK p L = scanK p L gk k) := HR.out.2
  have HMw : Hid (More w2 wm) := HR.out.1
  clear HR
  cases gk with
  | zero =>
   have He : Hid (checkK p L = (0, 0)) := Hsc.out
   clear Hsc
   have t0 := (HRES.out.more HMm.out).cell (j := 0) (v := .int .i64 0) rfl
   have t1 := (HRES.out.more HMm.out).cell (j := 1) (v := .int .i64 0) rfl
   have u0 := (HRES.out.more HMm.out).frozen 0
   have u1 := (HRES.out.more HMm.out).frozen 1
   go_wp2
   refine bodyPost_ret (v := flt 0 0) (by simp [flt, results, Try.results6, go_sem, *]) rfl ?_
   have hE := HP.out L HV2.out.2 _ (((HM0.out.trans HMm.out).setCell (a := ⟨w.heap.size + 1, 0, none⟩) (by dsimp only; omega) (.int .i64 0)).setCell (a := ⟨w.heap.size + 1, 1, none⟩) (by dsimp only; omega) (.int .i64 0))
   rw [He.out] at hE
   exact hE
  | succ g =>
   have hk : k < cl := by omega
   have hki : (k : Int) < cl := by omega
   have hca := HVm.out.at_ k (by rw [Hcl.out]; exact hk)
   cases eL : L k with
   | none =>
    rw [eL] at hca
    have c0 := hca.1
    have Hn2 : Hid (checkK p L = scanK p L g (k + 1)) := by show _ = _; rw [Hsc.out]; simp only [scanK, eL]
    clear hca eL Hsc
    go_wp2
    go_roundg g
    case measure => omega
    case rel => exact ⟨k + 1, by omega, by first | rfl | simp, HMw.out, Hn2.out⟩
   | some s =>
    rw [eL] at hca
    obtain ⟨gs, cs, c0, c1, hks, hgne⟩ := hca
    have Hks : Hid (KRow wm gs s) := hks
    have Hpk : Hid (k < p.cl) := by show _ < _; rw [Hcl.out]; exact hk
    have Hi : Hid (InsOk p.rl p.log p.cl 8 (p.ins k)) := H.out.2.1.2.2.2 k Hpk.out
    have Hn2 : Hid (checkK p L = if faultK p k s = 0 then scanK p L g (k + 1) else (faultK p k s, (k : Int))) := by show _ = _; rw [Hsc.out]; simp only [scanK, eL]
    have Hout : Hid ((∃ (i : Nat) (x : Nat × KS), (leadsK p k s)[i]? = some x ∧ p.cl ≤ x.1) ↔ outK p k = true) := out_iff Hi.out s
    clear eL hks hgne Hsc
    have q := (H.out.1.more (HM0.out.trans HMm.out)).code k Hpk.out
    obtain ⟨q0, q1, q2, q3, q4⟩ := q
    obtain ⟨i, hi⟩ : ∃ i, p.ins k = i := ⟨_, rfl⟩
    rw [hi] at q0 q1 q2 q3 q4
    have HI : Hid (p.ins k = i) := hi
    clear hi
    obtain ⟨op, a, b, ic, n⟩ := i
    dsimp only at q0 q1 q2 q3 q4
    have p0 : wm.cell? ⟨w.heap.size, 0, none⟩ = some (.slice ra p.rl rc) := (HBX.out.more HMm.out).cell rfl
    have p1 : wm.cell? ⟨w.heap.size, 1, none⟩ = some (.slice (some ⟨cb, co, none⟩) cl cc) := (HBX.out.more HMm.out).cell rfl
    obtain ⟨W8, HW8⟩ : ∃ W8 : World, Hid (W8 = wm.alloc (.cells #[.int .i64 op, .int .i64 a, .int .i64 b, .int .i64 ic, .int .i64 n] 55)) := ⟨_, rfl⟩
    have HM8 : Hid (More wm W8) := HW8.out ▸ (More.refl _).alloc _ _
    have HB8 : Hid (Blk W8 wm.heap.size #[.int .i64 op, .int .i64 a, .int .i64 b, .int .i64 ic, .int .i64 n] 55) := HW8.out ▸ Blk.last _ _ _
    obtain ⟨S, HS⟩ : ∃ S : World → Prop, Hid (∀ w', S w' ↔ More W8 w') := ⟨_, fun _ => Iff.rfl⟩
    have HSd : S W8.drew := (HS.out _).2 (More.refl _).drew
    have hne : Nonempty { w' // S w' } := ⟨⟨_, HSd⟩⟩
    have k0 : ∀ i : { w' // S w' }, i.val.cell? ⟨lb, k * 2, none⟩ = some (.bool true) := fun i => (HM8.out.trans ((HS.out _).1 i.property)).cell c0
    have k1 : ∀ i : { w' // S w' }, i.val.cell? ⟨lb, k * 2 + 1, none⟩ = some (.slice (some ⟨gs, 0, none⟩) 8 cs) := fun i => (HM8.out.trans ((HS.out _).1 i.property)).cell c1
    have k2 : ∀ i : { w' // S w' }, i.val.cell? ⟨w.heap.size, 0, none⟩ = some (.slice ra p.rl rc) := fun i => (HM8.out.trans ((HS.out _).1 i.property)).cell p0
    have k3 : ∀ i : { w' // S w' }, i.val.cell? ⟨w.heap.size, 1, none⟩ = some (.slice (some ⟨cb, co, none⟩) cl cc) := fun i => (HM8.out.trans ((HS.out _).1 i.property)).cell p1
    have Hld : Hid (∀ w1 : World, More wm w1 → Calls Try.prog 16 #[.agg #[.slice ra p.rl rc, .slice (some ⟨cb, co, none⟩) cl cc], .int .i64 k, st true gs cs] w1 fun e w' => ∃ v, e = .returned v ∧ LdAt w' w1.heap.size v (leadsK p k s) ∧ More w1 w') := fun w1 m => by
     have := leads_calls p ⟨ra, rb, ro, rc, some ⟨cb, co, none⟩, cb, co, cc⟩ k gs cs s w1 (H.out.1.more ((HM0.out.trans HMm.out).trans m)) Hpk.out H.out.2.1.2.2.1 Hi.out (H.out.2.2 k Hpk.out).1 (H.out.2.2 k Hpk.out).2 (Hks.out.more m)
     dsimp only at this
     rw [Hcl.out] at this
     exact this
    have zb := cell_block p0
    have zc := cell_block q0
    have zl := cell_block c0
    dsimp only at zb zc zl
    go_wp2_with (fail)
    rw [← HW8.out]
    refine wp_region_ord (S := S) [(0, true), (1, true), (2, true), (3, true), (4, true), (5, true), (6, false), (7, true)] (by kernel_rfl) (by kernel_rfl) (by kernel_rfl) HSd ?_
    iterate 6 (refine wpOrd_take rfl (by kernel_rfl) (fun K hK => ?_); go_simp; refine hK _ _ ?_; clear hK K)
    refine wpOrd_busy rfl (by kernel_rfl) (fun K hK => ?_); go_simp
    refine (Hld.out _ (HM8.out.drew)).mono ?_
    rintro e w3 ⟨lv, rfl, hlv, m3⟩
    have HM3 : Hid (More W8 w3) := (More.refl _).drew.trans m3
    have HS3 : S w3 := (HS.out _).2 HM3.out
    obtain ⟨ls, hls⟩ : ∃ ls, leadsK p k s = ls := ⟨_, rfl⟩
    rw [hls] at hlv
    have Hls : Hid ((∃ (i : Nat) (x : Nat × KS), ls[i]? = some x ∧ p.cl ≤ x.1) ↔ outK p k = true) := by have := Hout.out; rw [hls] at this; exact this
    clear hls Hout
    obtain ⟨la, lbk, lcap, rfl, hla, _, hl2, hcells⟩ := hlv
    obtain ⟨nl, hnl⟩ : ∃ nl, ls.length = nl := ⟨_, rfl⟩
    rw [hnl] at hla hl2 ⊢
    have Hce : Hid (∀ j x, ls[j]? = some x → w3.cell? ⟨lbk, j * 3, none⟩ = some (.int .i64 (x.1 : Int))) := fun j x hx => by obtain ⟨_, _, q, _⟩ := hcells j x hx; exact q
    have Hnl : Hid (ls.length = nl ∧ (0 < nl → la = some ⟨lbk, 0, none⟩)) := ⟨hnl, hla⟩
    clear m3 hnl hla hcells
    go_simp
    refine hK _ _ HS3 ?_; clear hK K
    (refine wpOrd_take rfl (by kernel_rfl) (fun K hK => ?_); go_simp; refine hK _ _ ?_; clear hK K)
    refine wpOrd_done ?_
    clear k0 k1 k2 k3 hne HSd HS3 q0 q1 q2 q3 q4 zb zc zl
    go_wp2_with (fail)
    go_loopg [7, 8] nl (fun g3 bv iv wr3 => ∃ (j : Nat) (bb : Bool), j + g3 = nl ∧ iv = .int .i64 j ∧ bv = .bool bb ∧ wr3 = w3 ∧ Hid (bb = true ↔ ∃ (i : Nat) (x : Nat × KS), i < j ∧ ls[i]? = some x ∧ p.cl ≤ x.1))
    case atStart => exact ⟨0, false, by omega, rfl, rfl, rfl, ⟨fun h => absurd h (by simp), fun ⟨i, x, h, _⟩ => absurd h (Nat.not_lt_zero _)⟩⟩
    case round =>
     obtain ⟨j, bb, hjg, rfl, rfl, rfl, HJ⟩ := hrel
     obtain ⟨w3, rfl⟩ : ∃ w3, w3 = wr := ⟨wr, rfl⟩
     cases gk with
     | succ g3 =>
      have hj : j < nl := by omega
      have hji : (j : Int) < nl := by omega
      have hnli : (nl : Int) ≤ 2 := by omega
      obtain ⟨x, hx⟩ : ∃ x, ls[j]? = some x := ⟨ls[j]'(by rw [Hnl.out.1]; exact hj), List.getElem?_eq_getElem _⟩
      obtain rfl : la = some ⟨lbk, 0, none⟩ := Hnl.out.2 (by omega)
      have l0 := Hce.out j x hx
      have Hx : Hid (ls[j]? = some x) := hx
      obtain ⟨xto, xs⟩ := x
      dsimp only at l0
      clear hx
      obtain ⟨dd, hdd⟩ : ∃ d, decide (cl ≤ xto) = d := ⟨_, rfl⟩
      have Hnx : Hid ((bb || dd) = true ↔ ∃ (i : Nat) (x : Nat × KS), i < j + 1 ∧ ls[i]? = some x ∧ p.cl ≤ x.1) := by
       rw [Bool.or_eq_true, HJ.out]
       constructor
       ·rintro (⟨i, x, h1, h2, h3⟩ | h)
        ·exact ⟨i, x, by omega, h2, h3⟩
        ·refine ⟨j, _, by omega, Hx.out, ?_⟩
         rw [← hdd, decide_eq_true_eq] at h
         have := Hcl.out
         dsimp only; omega
       ·rintro ⟨i, x, h1, h2, h3⟩
        by_cases e : i = j
        ·subst e
         rw [Hx.out] at h2
         cases h2
         right
         rw [← hdd, decide_eq_true_eq]
         have := Hcl.out
         dsimp only at h3; omega
        ·exact .inl ⟨i, x, by omega, h2, h3⟩
      clear HJ
      cases bb
      ·simp only [Bool.false_or] at Hnx
       go_wp2
       go_roundg g3
       case measure => omega
       case rel => exact ⟨j + 1, dd, by omega, by first | rfl | simp, rfl, rfl, Hnx.out⟩
      ·simp only [Bool.true_or] at Hnx
       clear hdd
       go_wp2
       go_roundg g3
       case measure => omega
       case rel => exact ⟨j + 1, true, by omega, by first | rfl | simp, rfl, rfl, ⟨fun _ => Hnx.out.1 trivial, fun _ => rfl⟩⟩
     | zero =>
      have HO : Hid (bb = outK p k) := by
       show _ = _
       rw [Bool.eq_iff_iff, HJ.out, ← Hls.out]
       constructor
       ·rintro ⟨i, x, _, h2, h3⟩; exact ⟨i, x, h2, h3⟩
       ·rintro ⟨i, x, h2, h3⟩
        have : i < ls.length := (List.getElem?_eq_some_iff.1 h2).1
        exact ⟨i, x, by rw [Hnl.out.1] at this; omega, h2, h3⟩
      clear HJ
      obtain ⟨sc, hsc⟩ : ∃ x, secretK p (p.ins k) s = x := ⟨_, rfl⟩
      have Hsc2 : Hid (secretK p (p.ins k) s = sc) := hsc
      have Csec : Hid (∀ w1 : World, More wm w1 → Calls Try.prog 18 #[.agg #[.slice ra p.rl rc, .slice (some ⟨cb, co, none⟩) cl cc], .agg #[.int .i64 op, .int .i64 a, .int .i64 b, .int .i64 ic, .int .i64 n], .slice (some ⟨gs, 0, none⟩) 8 cs] w1 fun e w' => e = .returned (.bool sc) ∧ More w1 w') := fun w1 m => by
       have := secret_calls p ⟨ra, rb, ro, rc, some ⟨cb, co, none⟩, cb, co, cc⟩ k gs cs s w1 (H.out.1.more ((HM0.out.trans HMm.out).trans m)) Hi.out (Hks.out.more m)
       rw [hsc, HI.out] at this
       dsimp only at this
       rw [Hcl.out] at this
       exact this
      clear hsc
      have HB3 : Hid (Blk w3 wm.heap.size #[.int .i64 op, .int .i64 a, .int .i64 b, .int .i64 ic, .int .i64 n] 55) := HB8.out.more HM3.out
      have i0 : w3.cell? ⟨wm.heap.size, 0, none⟩ = some (.int .i64 op) := HB3.out.cell rfl
      have Hrf : Hid (More w3 w3) := More.refl _
      by_cases hop : op = 3 ∨ op = 4
      ·-- a word at an index
       rcases hop with rfl | rfl
       all_goals
        have hI := Hi.out
        unfold InsOk Reg Rgn at hI
        rw [HI.out] at hI
        simp at hI
        obtain rfl : ra = some ⟨rb, ro, none⟩ := H.out.1.hr (by omega)
        obtain ⟨lg, hlg⟩ : ∃ x, p.log ic.toNat = x := ⟨_, rfl⟩
        have Hlg : Hid (∀ w' : World, More wm w' → w'.cell? ⟨rb, ro + ic.toNat * 2, none⟩ = some (.int .i64 lg)) := fun w' m => by
         have := ((H.out.1.more ((HM0.out.trans HMm.out).trans m)).regs ic.toNat (by omega)).1
         rw [hlg] at this; exact this
        obtain ⟨xb, hxb⟩ : ∃ x, s b.toNat = x := ⟨_, rfl⟩
        obtain ⟨v, hv⟩ : ∃ v, Kn.index xb n = v := ⟨_, rfl⟩
        have hnn := H.out.2.2 k Hpk.out
        rw [HI.out] at hnn
        dsimp only at hnn
        have Cix : Hid (∀ w : World, Calls Try.prog 17 #[kn xb.b xb.s, .int .i64 n] w fun e w' => e = .returned (kn v.b v.s) ∧ More w w') := fun w => hv ▸ index_calls xb n hnn.1 hnn.2 w
        have HbK : Hid (boundK p (p.ins k) s = (decide (n < 0) || decide (lg < v.b))) := by
         show _ = _
         unfold boundK; rw [HI.out]; dsimp only
         rw [hxb, hv, hlg]; simp
        have b0 : 0 ≤ b := by omega
        have b1 : b < 8 := by omega
        have ic0 : 0 ≤ ic := by omega
        have ic1 : ic < p.rl := by omega
        have Hxb : Hid (s b.toNat = ⟨xb.b, xb.s⟩) := hxb
        clear hlg hxb hv hI hnn
        obtain ⟨vb, vs⟩ := v
        obtain ⟨xbb, xbs⟩ := xb
        unfold kn at Cix
        dsimp only at Cix HbK Hxb
        obtain ⟨T, HT⟩ : ∃ T : World → Prop, Hid (∀ w', T w' ↔ More w3 w') := ⟨_, fun _ => Iff.rfl⟩
        have HT0 : T w3.drew := (HT.out _).2 (More.refl _).drew
        have hneT : Nonempty { w' // T w' } := ⟨⟨_, HT0⟩⟩
        have HMt : Hid (More wm w3) := HM8.out.trans HM3.out
        have k0 : ∀ i : { w' // T w' }, i.val.cell? ⟨lb, k * 2 + 1, none⟩ = some (.slice (some ⟨gs, 0, none⟩) 8 cs) := fun i => (HMt.out.trans ((HT.out _).1 i.property)).cell c1
        have k1 : ∀ i : { w' // T w' }, i.val.cell? ⟨gs, b.toNat * 2, none⟩ = some (.int .i64 xbb) := fun i => by have := ((Hks.out.more (HMt.out.trans ((HT.out _).1 i.property))) b.toNat (by omega)).1.1; rw [Hxb.out] at this; exact this
        have k2 : ∀ i : { w' // T w' }, i.val.cell? ⟨gs, b.toNat * 2 + 1, none⟩ = some (.bool xbs) := fun i => by have := ((Hks.out.more (HMt.out.trans ((HT.out _).1 i.property))) b.toNat (by omega)).1.2; rw [Hxb.out] at this; exact this
        have k3 : ∀ i : { w' // T w' }, i.val.cell? ⟨wm.heap.size, 2, none⟩ = some (.int .i64 b) := fun i => (HB3.out.more ((HT.out _).1 i.property)).cell rfl
        have k4 : ∀ i : { w' // T w' }, i.val.cell? ⟨wm.heap.size, 4, none⟩ = some (.int .i64 n) := fun i => (HB3.out.more ((HT.out _).1 i.property)).cell rfl
        have k5 : True := trivial
        have k6 : True := trivial
        have k7 : True := trivial
        go_wp2_with (fail)
        clear i0
        refine wp_region_left (S := T) (by kernel_rfl) HT0 ?_
        refine ol_take 0 rfl (by kernel_rfl) HT0 (by kernel_rfl) (fun K hK => ?_); go_simp; refine hK _ _ ?_; clear hK K
        refine ol_take 1 rfl (by kernel_rfl) HT0 (by kernel_rfl) (fun K hK => ?_); go_simp; refine hK _ _ ?_; clear hK K
        refine ol_take 2 rfl (by kernel_rfl) HT0 (by kernel_rfl) (fun K hK => ?_); go_simp; refine hK _ _ ?_; clear hK K
        refine ol_take 3 rfl (by kernel_rfl) HT0 (by kernel_rfl) (fun K hK => ?_); go_simp; refine hK _ _ ?_; clear hK K
        refine ol_take 4 rfl (by kernel_rfl) HT0 (by kernel_rfl) (fun K hK => ?_); go_simp; refine hK _ _ ?_; clear hK K
        refine ol_take 5 rfl (by kernel_rfl) HT0 (by kernel_rfl) (fun K hK => ?_); go_simp; refine hK _ _ ?_; clear hK K
        refine ol_take 6 rfl (by kernel_rfl) HT0 (by kernel_rfl) (fun K hK => ?_); go_simp; refine hK _ _ ?_; clear hK K
        refine ol_take 7 rfl (by kernel_rfl) HT0 (by kernel_rfl) (fun K hK => ?_); go_simp; refine hK _ _ ?_; clear hK K
        refine ol_take 8 rfl (by kernel_rfl) HT0 (by kernel_rfl) (fun K hK => ?_); go_simp; refine hK _ _ ?_; clear hK K
        refine ol_take 9 rfl (by kernel_rfl) HT0 (by kernel_rfl) (fun K hK => ?_); go_simp; refine hK _ _ ?_; clear hK K
        refine ol_take 10 rfl (by kernel_rfl) HT0 (by kernel_rfl) (fun K hK => ?_); go_simp; refine hK _ _ ?_; clear hK K
        refine ol_two 11 12 (by kernel_rfl) ?_ ?_
        ·-- the call, then the new block
         refine ol_step rfl (by kernel_rfl) (fun K hK => ?_); go_simp
         refine (Cix.out _).mono ?_
         rintro e w5 ⟨rfl, m5⟩
         have M5 : Hid (More w3 w5) := (More.refl _).drew.trans m5
         clear m5
         go_simp
         refine hK _ _ ((HT.out _).2 M5.out) ?_; clear hK K
         refine ol_one 12 (by kernel_rfl) ?_
         refine ol_step rfl (by kernel_rfl) (fun K hK => ?_); go_simp
         refine hK _ _ ((HT.out _).2 (M5.out.alloc _ _)) ?_; clear hK K
         refine ol_one 13 (by kernel_rfl) ?_
         refine ol_step rfl (by kernel_rfl) (fun K hK => ?_); go_simp
         obtain ⟨w6, Hw6⟩ : ∃ w6 : World, Hid (w6 = w5.alloc (.cells #[.int .i64 vb, .bool vs] 61)) := ⟨_, rfl⟩
         have HM6 : Hid (More w3 w6) := Hw6.out ▸ M5.out.alloc _ _
         obtain ⟨bx, Hbx⟩ : ∃ bx, Hid (bx = w5.heap.size) := ⟨_, rfl⟩
         have HB6 : Hid (Blk w6 bx #[.int .i64 vb, .bool vs] 61) := Hw6.out ▸ Hbx.out ▸ Blk.last _ _ _
         rw [← Hw6.out, ← Hbx.out]
         refine hK _ _ ((HT.out _).2 HM6.out) ?_; clear hK K
         refine ol_done (by kernel_rfl) ?_
         clear k0 k1 k2 k3 k4 k5 k6 k7 hneT HT0
         -- the block bx, the world w6
         have HMy : Hid (More wm w6) := (HM8.out.trans HM3.out).trans HM6.out
         have HBi : Hid (Blk w6 wm.heap.size #[.int .i64 _, .int .i64 a, .int .i64 b, .int .i64 ic, .int .i64 n] 55) := HB3.out.more HM6.out
         obtain ⟨X, HX⟩ : ∃ X : World → Prop, Hid (∀ w', X w' ↔ More w6 w') := ⟨_, fun _ => Iff.rfl⟩
         have HX0 : X w6.drew := (HX.out _).2 (More.refl _).drew
         have hneX : Nonempty { w' // X w' } := ⟨⟨_, HX0⟩⟩
         have x0 : ∀ i : { w' // X w' }, i.val.cell? ⟨bx, 0, none⟩ = some (.int .i64 vb) := fun i => (HB6.out.more ((HX.out _).1 i.property)).cell rfl
         have x1 : ∀ i : { w' // X w' }, i.val.cell? ⟨wm.heap.size, 4, none⟩ = some (.int .i64 n) := fun i => (HBi.out.more ((HX.out _).1 i.property)).cell rfl
         have x2 : ∀ i : { w' // X w' }, i.val.cell? ⟨wm.heap.size, 3, none⟩ = some (.int .i64 ic) := fun i => (HBi.out.more ((HX.out _).1 i.property)).cell rfl
         have x3 : ∀ i : { w' // X w' }, i.val.cell? ⟨w.heap.size, 0, none⟩ = some (.slice (some ⟨rb, ro, none⟩) p.rl rc) := fun i => (HMy.out.trans ((HX.out _).1 i.property)).cell p0
         have x4 : ∀ i : { w' // X w' }, i.val.cell? ⟨rb, ro + ic.toNat * 2, none⟩ = some (.int .i64 lg) := fun i => Hlg.out _ (HMy.out.trans ((HX.out _).1 i.property))
         have x5 : True := trivial
         go_wp2_with (fail)
         refine wp_region_ord (S := X) [(0, true), (1, true), (2, true), (3, true), (4, true), (5, true), (6, true), (7, true), (8, true), (9, true), (10, true), (11, true), (12, true), (13, true), (14, true), (15, true), (16, true), (17, true), (18, true)] (by kernel_rfl) (by kernel_rfl) (by kernel_rfl) HX0 ?_
         iterate 2 (refine wpOrd_take rfl (by kernel_rfl) (fun K hK => ?_); go_simp; refine hK _ _ ?_; clear hK K)
         cases bb with
         | true =>
          iterate 3 (refine wpOrd_pass rfl HX0 (by kernel_rfl) (fun K hK => ?_); go_simp; refine hK _ _ ?_; clear hK K)
          refine wpOrd_pickT rfl rfl (by kernel_rfl) rfl (fun K hK => ?_); go_simp; refine hK _ _ ?_; clear hK K
          (refine wpOrd_take rfl (by kernel_rfl) (fun K hK => ?_); go_simp; refine hK _ _ ?_; clear hK K)
          iterate 10 (refine wpOrd_pass rfl HX0 (by kernel_rfl) (fun K hK => ?_); go_simp; refine hK _ _ ?_; clear hK K)
          refine wpOrd_pickT rfl rfl (by kernel_rfl) rfl (fun K hK => ?_); go_simp; refine hK _ _ ?_; clear hK K
          (refine wpOrd_take rfl (by kernel_rfl) (fun K hK => ?_); go_simp; refine hK _ _ ?_; clear hK K)
          have Hck : Hid (checkK p L = (4, (k : Int))) := by
           show _ = _
           have hf : faultK p k s = 4 := by unfold faultK; rw [← HO.out]; rfl
           rw [Hn2.out, hf]; rfl
          refine wpOrd_done ?_
          clear x0 x1 x2 x3 x4 x5 hneX HX0
          have HMz : Hid (More W0 w6.drew) := (((HMm.out.trans HM8.out).trans HM3.out).trans HM6.out).drew
          have t0 : w6.cell? ⟨w.heap.size + 1, 0, none⟩ = some (.int .i64 0) := (HRES.out.more (((HMm.out.trans HM8.out).trans HM3.out).trans HM6.out)).cell rfl
          have t1 : w6.cell? ⟨w.heap.size + 1, 1, none⟩ = some (.int .i64 0) := (HRES.out.more (((HMm.out.trans HM8.out).trans HM3.out).trans HM6.out)).cell rfl
          have u0 : w6.frozen? ⟨w.heap.size + 1, 0, none⟩ = false := (HRES.out.more (((HMm.out.trans HM8.out).trans HM3.out).trans HM6.out)).frozen 0
          have u1 : w6.frozen? ⟨w.heap.size + 1, 1, none⟩ = false := (HRES.out.more (((HMm.out.trans HM8.out).trans HM3.out).trans HM6.out)).frozen 1
          go_wp2
          refine bodyPost_ret (v := flt 4 k) (by simp [flt, results, Try.results6, go_sem, *]) rfl ?_
          have hE := HP.out L HV2.out.2 _ (((HM0.out.trans (((HMm.out.trans HM8.out).trans HM3.out).trans HM6.out)).setCell (a := ⟨w.heap.size + 1, 0, none⟩) (by dsimp only; omega) (.int .i64 4)).setCell (a := ⟨w.heap.size + 1, 1, none⟩) (by dsimp only; omega) (.int .i64 k)).drew
          rw [Hck.out] at hE
          exact hE
         | false =>
          by_cases hn0 : n < 0
          ·have hdn : decide (n < 0) = true := by simp [hn0]
           have Hbd : Hid (boundK p (p.ins k) s = true) := by show _ = _; rw [HbK.out, hdn]; rfl
           iterate 3 (refine wpOrd_take rfl (by kernel_rfl) (fun K hK => ?_); go_simp; refine hK _ _ ?_; clear hK K)
           refine wpOrd_pickF rfl rfl (by kernel_rfl) rfl (fun K hK => ?_); go_simp; refine hK _ _ ?_; clear hK K
           (refine wpOrd_take rfl (by kernel_rfl) (fun K hK => ?_); go_simp; refine hK _ _ ?_; clear hK K)
           iterate 10 (refine wpOrd_pass rfl HX0 (by kernel_rfl) (fun K hK => ?_); go_simp; refine hK _ _ ?_; clear hK K)
           refine wpOrd_pickT rfl rfl (by kernel_rfl) rfl (fun K hK => ?_); go_simp; refine hK _ _ ?_; clear hK K
           (refine wpOrd_take rfl (by kernel_rfl) (fun K hK => ?_); go_simp; refine hK _ _ ?_; clear hK K)
           have Hck : Hid (checkK p L = (4, (k : Int))) := by
            show _ = _
            have hf : faultK p k s = 4 := by unfold faultK; rw [Hbd.out, Bool.or_true]; rfl
            rw [Hn2.out, hf]; rfl
           refine wpOrd_done ?_
           clear x0 x1 x2 x3 x4 x5 hneX HX0
           have HMz : Hid (More W0 w6.drew) := (((HMm.out.trans HM8.out).trans HM3.out).trans HM6.out).drew
           have t0 : w6.cell? ⟨w.heap.size + 1, 0, none⟩ = some (.int .i64 0) := (HRES.out.more (((HMm.out.trans HM8.out).trans HM3.out).trans HM6.out)).cell rfl
           have t1 : w6.cell? ⟨w.heap.size + 1, 1, none⟩ = some (.int .i64 0) := (HRES.out.more (((HMm.out.trans HM8.out).trans HM3.out).trans HM6.out)).cell rfl
           have u0 : w6.frozen? ⟨w.heap.size + 1, 0, none⟩ = false := (HRES.out.more (((HMm.out.trans HM8.out).trans HM3.out).trans HM6.out)).frozen 0
           have u1 : w6.frozen? ⟨w.heap.size + 1, 1, none⟩ = false := (HRES.out.more (((HMm.out.trans HM8.out).trans HM3.out).trans HM6.out)).frozen 1
           go_wp2
           refine bodyPost_ret (v := flt 4 k) (by simp [flt, results, Try.results6, go_sem, *]) rfl ?_
           have hE := HP.out L HV2.out.2 _ (((HM0.out.trans (((HMm.out.trans HM8.out).trans HM3.out).trans HM6.out)).setCell (a := ⟨w.heap.size + 1, 0, none⟩) (by dsimp only; omega) (.int .i64 4)).setCell (a := ⟨w.heap.size + 1, 1, none⟩) (by dsimp only; omega) (.int .i64 k)).drew
           rw [Hck.out] at hE
           exact hE
          ·have hdn : decide (n < 0) = false := by simp [hn0]
           iterate 3 (refine wpOrd_take rfl (by kernel_rfl) (fun K hK => ?_); go_simp; refine hK _ _ ?_; clear hK K)
           refine wpOrd_pickF rfl rfl (by kernel_rfl) rfl (fun K hK => ?_); go_simp; refine hK _ _ ?_; clear hK K
           iterate 11 (refine wpOrd_take rfl (by kernel_rfl) (fun K hK => ?_); go_simp; refine hK _ _ ?_; clear hK K)
           refine wpOrd_pickF rfl rfl (by kernel_rfl) rfl (fun K hK => ?_); go_simp; refine hK _ _ ?_; clear hK K
           (refine wpOrd_take rfl (by kernel_rfl) (fun K hK => ?_); go_simp; refine hK _ _ ?_; clear hK K)
           by_cases hlv : lg < vb
           ·have Hbd : Hid (boundK p (p.ins k) s = true) := by show _ = _; rw [HbK.out, hdn, decide_eq_true hlv]; rfl
            have Hck : Hid (checkK p L = (4, (k : Int))) := by
             show _ = _
             have hf : faultK p k s = 4 := by unfold faultK; rw [Hbd.out, Bool.or_true]; rfl
             rw [Hn2.out, hf]; rfl
            refine wpOrd_done ?_
            clear x0 x1 x2 x3 x4 x5 hneX HX0
            have HMz : Hid (More W0 w6.drew) := (((HMm.out.trans HM8.out).trans HM3.out).trans HM6.out).drew
            have t0 : w6.cell? ⟨w.heap.size + 1, 0, none⟩ = some (.int .i64 0) := (HRES.out.more (((HMm.out.trans HM8.out).trans HM3.out).trans HM6.out)).cell rfl
            have t1 : w6.cell? ⟨w.heap.size + 1, 1, none⟩ = some (.int .i64 0) := (HRES.out.more (((HMm.out.trans HM8.out).trans HM3.out).trans HM6.out)).cell rfl
            have u0 : w6.frozen? ⟨w.heap.size + 1, 0, none⟩ = false := (HRES.out.more (((HMm.out.trans HM8.out).trans HM3.out).trans HM6.out)).frozen 0
            have u1 : w6.frozen? ⟨w.heap.size + 1, 1, none⟩ = false := (HRES.out.more (((HMm.out.trans HM8.out).trans HM3.out).trans HM6.out)).frozen 1
            go_wp2
            refine bodyPost_ret (v := flt 4 k) (by simp [flt, results, Try.results6, go_sem, *]) rfl ?_
            have hE := HP.out L HV2.out.2 _ (((HM0.out.trans (((HMm.out.trans HM8.out).trans HM3.out).trans HM6.out)).setCell (a := ⟨w.heap.size + 1, 0, none⟩) (by dsimp only; omega) (.int .i64 4)).setCell (a := ⟨w.heap.size + 1, 1, none⟩) (by dsimp only; omega) (.int .i64 k)).drew
            rw [Hck.out] at hE
            exact hE
           ·have hdl : decide (lg < vb) = false := by simp [hlv]
            have Hno : Hid ((outK p k || boundK p (p.ins k) s) = false) := by show _ = _; rw [← HO.out, HbK.out, hdn, hdl]; rfl
            refine wpOrd_done ?_
            clear x0 x1 x2 x3 x4 x5 hneX HX0
            have HMd : Hid (More w3 w6.drew) := HM6.out.drew
            obtain ⟨w7, Hw7⟩ : ∃ w7 : World, Hid (w7 = w6.drew) := ⟨_, rfl⟩
            have HMe : Hid (More w3 w7) := Hw7.out ▸ HMd.out
            rw [← Hw7.out]
            have HMx : Hid (More wm w7) := (HM8.out.trans HM3.out).trans HMe.out
            have HBx : Hid (Blk w7 wm.heap.size #[.int .i64 _, .int .i64 a, .int .i64 b, .int .i64 ic, .int .i64 n] 55) := (HB8.out.more HM3.out).more HMe.out
            obtain ⟨U, HU⟩ : ∃ U : World → Prop, Hid (∀ w', U w' ↔ More w7 w') := ⟨_, fun _ => Iff.rfl⟩
            have HU0 : U w7.drew := (HU.out _).2 (More.refl _).drew
            have hneU : Nonempty { w' // U w' } := ⟨⟨_, HU0⟩⟩
            have g0 : ∀ i : { w' // U w' }, i.val.cell? ⟨w.heap.size, 0, none⟩ = some (.slice (some ⟨rb, ro, none⟩) p.rl rc) := fun i => (HMx.out.trans ((HU.out _).1 i.property)).cell p0
            have g1 : ∀ i : { w' // U w' }, i.val.cell? ⟨w.heap.size, 1, none⟩ = some (.slice (some ⟨cb, co, none⟩) cl cc) := fun i => (HMx.out.trans ((HU.out _).1 i.property)).cell p1
            have g2 : ∀ i : { w' // U w' }, i.val.cell? ⟨lb, k * 2 + 1, none⟩ = some (.slice (some ⟨gs, 0, none⟩) 8 cs) := fun i => (HMx.out.trans ((HU.out _).1 i.property)).cell c1
            have g3 : ∀ i : { w' // U w' }, i.val.cell? ⟨wm.heap.size, 0, none⟩ = some (.int .i64 _) := fun i => (HBx.out.more ((HU.out _).1 i.property)).cell rfl
            have g4 : ∀ i : { w' // U w' }, i.val.cell? ⟨wm.heap.size, 1, none⟩ = some (.int .i64 a) := fun i => (HBx.out.more ((HU.out _).1 i.property)).cell rfl
            have g5 : ∀ i : { w' // U w' }, i.val.cell? ⟨wm.heap.size, 2, none⟩ = some (.int .i64 b) := fun i => (HBx.out.more ((HU.out _).1 i.property)).cell rfl
            have g6 : ∀ i : { w' // U w' }, i.val.cell? ⟨wm.heap.size, 3, none⟩ = some (.int .i64 ic) := fun i => (HBx.out.more ((HU.out _).1 i.property)).cell rfl
            have g7 : ∀ i : { w' // U w' }, i.val.cell? ⟨wm.heap.size, 4, none⟩ = some (.int .i64 n) := fun i => (HBx.out.more ((HU.out _).1 i.property)).cell rfl
            go_wp2_with (fail)
            refine wp_region_ord (S := U) [(0, true), (1, true), (2, true), (3, true), (4, true), (5, true), (6, true), (7, false)] (by kernel_rfl) (by kernel_rfl) (by kernel_rfl) HU0 ?_
            iterate 7 (refine wpOrd_take rfl (by kernel_rfl) (fun K hK => ?_); go_simp; refine hK _ _ ?_; clear hK K)
            refine wpOrd_busy rfl (by kernel_rfl) (fun K hK => ?_); go_simp
            refine (Csec.out _ (HMx.out.drew)).mono ?_
            rintro e w9 ⟨rfl, m9⟩
            have HM9 : Hid (More w7 w9) := (More.refl _).drew.trans m9
            have HU9 : U w9 := (HU.out _).2 HM9.out
            clear m9
            cases sc with
            | true =>
             have Hck : Hid (checkK p L = (5, (k : Int))) := by
              show _ = _
              have hf : faultK p k s = 5 := by unfold faultK; rw [Hno.out, Hsc2.out]; rfl
              rw [Hn2.out, hf]; rfl
             go_simp
             refine hK _ _ HU9 ?_; clear hK K
             refine wpOrd_done ?_
             clear g0 g1 g2 g3 g4 g5 g6 g7 hneU HU0 HU9
             have t0 := (HRES.out.more ((HMm.out.trans HMx.out).trans HM9.out)).cell (j := 0) (v := .int .i64 0) rfl
             have t1 := (HRES.out.more ((HMm.out.trans HMx.out).trans HM9.out)).cell (j := 1) (v := .int .i64 0) rfl
             have u0 := (HRES.out.more ((HMm.out.trans HMx.out).trans HM9.out)).frozen 0
             have u1 := (HRES.out.more ((HMm.out.trans HMx.out).trans HM9.out)).frozen 1
             go_wp2
             refine bodyPost_ret (v := flt 5 k) (by simp [flt, results, Try.results6, go_sem, *]) rfl ?_
             have hE := HP.out L HV2.out.2 _ (((HM0.out.trans ((HMm.out.trans HMx.out).trans HM9.out)).setCell (a := ⟨w.heap.size + 1, 0, none⟩) (by dsimp only; omega) (.int .i64 5)).setCell (a := ⟨w.heap.size + 1, 1, none⟩) (by dsimp only; omega) (.int .i64 k))
             rw [Hck.out] at hE
             exact hE
            | false =>
             have Hck : Hid (checkK p L = scanK p L g (k + 1)) := by
              show _ = _
              have hf : faultK p k s = 0 := by unfold faultK; rw [Hno.out, Hsc2.out]; rfl
              rw [Hn2.out, if_pos hf]
             go_simp
             refine hK _ _ HU9 ?_; clear hK K
             refine wpOrd_done ?_
             clear g0 g1 g2 g3 g4 g5 g6 g7 hneU HU0 HU9
             go_wp2
             go_roundg g
             case measure => omega
             case rel => exact ⟨k + 1, by omega, by first | rfl | simp, (HMw.out.trans HMx.out).trans HM9.out, Hck.out⟩
        ·-- the new block, then the call
         refine ol_step rfl (by kernel_rfl) (fun K hK => ?_); go_simp
         refine hK _ _ ((HT.out _).2 ((More.refl _).drew.alloc _ _)) ?_; clear hK K
         refine ol_one 11 (by kernel_rfl) ?_
         refine ol_step rfl (by kernel_rfl) (fun K hK => ?_); go_simp
         refine (Cix.out _).mono ?_
         rintro e w5 ⟨rfl, m5⟩
         have M5 : Hid (More w3 w5) := ((More.refl _).drew.alloc _ _).trans m5
         have HB5 : Hid (Blk w5 w3.heap.size #[.int .i64 0, .bool false] 61) := (Blk.last w3.drew _ _).more m5
         clear m5
         go_simp
         refine hK _ _ ((HT.out _).2 M5.out) ?_; clear hK K
         refine ol_one 13 (by kernel_rfl) ?_
         have y0 := HB5.out.cell (j := 0) (v := .int .i64 0) rfl
         have y1 := HB5.out.cell (j := 1) (v := .bool false) rfl
         have y2 := HB5.out.frozen 0
         have y3 := HB5.out.frozen 1
         refine ol_step rfl (by kernel_rfl) (fun K hK => ?_); go_simp
         obtain ⟨w6, Hw6⟩ : ∃ w6 : World, Hid (w6 = (w5.setCell ⟨w3.heap.size, 0, none⟩ (.int .i64 vb)).setCell ⟨w3.heap.size, 1, none⟩ (.bool vs)) := ⟨_, rfl⟩
         have HM6 : Hid (More w3 w6) := Hw6.out ▸ (M5.out.setCell (Nat.le_refl _) _).setCell (Nat.le_refl _) _
         obtain ⟨bx, Hbx⟩ : ∃ bx, Hid (bx = w3.heap.size) := ⟨_, rfl⟩
         have HB6 : Hid (Blk w6 bx #[.int .i64 vb, .bool vs] 61) := by
          show Blk _ _ _ _
          rw [Hw6.out, Hbx.out]
          have h1 := HB5.out
          unfold Blk at h1 ⊢
          simp [World.setCell, Array.getElem?_modify, h1]
         rw [← Hw6.out]
         simp only [← Hbx.out]
         clear y0 y1 y2 y3
         refine hK _ _ ((HT.out _).2 HM6.out) ?_; clear hK K
         refine ol_done (by kernel_rfl) ?_
         clear k0 k1 k2 k3 k4 k5 k6 k7 hneT HT0
         -- the block bx, the world w6
         have HMy : Hid (More wm w6) := (HM8.out.trans HM3.out).trans HM6.out
         have HBi : Hid (Blk w6 wm.heap.size #[.int .i64 _, .int .i64 a, .int .i64 b, .int .i64 ic, .int .i64 n] 55) := HB3.out.more HM6.out
         obtain ⟨X, HX⟩ : ∃ X : World → Prop, Hid (∀ w', X w' ↔ More w6 w') := ⟨_, fun _ => Iff.rfl⟩
         have HX0 : X w6.drew := (HX.out _).2 (More.refl _).drew
         have hneX : Nonempty { w' // X w' } := ⟨⟨_, HX0⟩⟩
         have x0 : ∀ i : { w' // X w' }, i.val.cell? ⟨bx, 0, none⟩ = some (.int .i64 vb) := fun i => (HB6.out.more ((HX.out _).1 i.property)).cell rfl
         have x1 : ∀ i : { w' // X w' }, i.val.cell? ⟨wm.heap.size, 4, none⟩ = some (.int .i64 n) := fun i => (HBi.out.more ((HX.out _).1 i.property)).cell rfl
         have x2 : ∀ i : { w' // X w' }, i.val.cell? ⟨wm.heap.size, 3, none⟩ = some (.int .i64 ic) := fun i => (HBi.out.more ((HX.out _).1 i.property)).cell rfl
         have x3 : ∀ i : { w' // X w' }, i.val.cell? ⟨w.heap.size, 0, none⟩ = some (.slice (some ⟨rb, ro, none⟩) p.rl rc) := fun i => (HMy.out.trans ((HX.out _).1 i.property)).cell p0
         have x4 : ∀ i : { w' // X w' }, i.val.cell? ⟨rb, ro + ic.toNat * 2, none⟩ = some (.int .i64 lg) := fun i => Hlg.out _ (HMy.out.trans ((HX.out _).1 i.property))
         have x5 : True := trivial
         go_wp2_with (fail)
         refine wp_region_ord (S := X) [(0, true), (1, true), (2, true), (3, true), (4, true), (5, true), (6, true), (7, true), (8, true), (9, true), (10, true), (11, true), (12, true), (13, true), (14, true), (15, true), (16, true), (17, true), (18, true)] (by kernel_rfl) (by kernel_rfl) (by kernel_rfl) HX0 ?_
         iterate 2 (refine wpOrd_take rfl (by kernel_rfl) (fun K hK => ?_); go_simp; refine hK _ _ ?_; clear hK K)
         cases bb with
         | true =>
          iterate 3 (refine wpOrd_pass rfl HX0 (by kernel_rfl) (fun K hK => ?_); go_simp; refine hK _ _ ?_; clear hK K)
          refine wpOrd_pickT rfl rfl (by kernel_rfl) rfl (fun K hK => ?_); go_simp; refine hK _ _ ?_; clear hK K
          (refine wpOrd_take rfl (by kernel_rfl) (fun K hK => ?_); go_simp; refine hK _ _ ?_; clear hK K)
          iterate 10 (refine wpOrd_pass rfl HX0 (by kernel_rfl) (fun K hK => ?_); go_simp; refine hK _ _ ?_; clear hK K)
          refine wpOrd_pickT rfl rfl (by kernel_rfl) rfl (fun K hK => ?_); go_simp; refine hK _ _ ?_; clear hK K
          (refine wpOrd_take rfl (by kernel_rfl) (fun K hK => ?_); go_simp; refine hK _ _ ?_; clear hK K)
          have Hck : Hid (checkK p L = (4, (k : Int))) := by
           show _ = _
           have hf : faultK p k s = 4 := by unfold faultK; rw [← HO.out]; rfl
           rw [Hn2.out, hf]; rfl
          refine wpOrd_done ?_
          clear x0 x1 x2 x3 x4 x5 hneX HX0
          have HMz : Hid (More W0 w6.drew) := (((HMm.out.trans HM8.out).trans HM3.out).trans HM6.out).drew
          have t0 : w6.cell? ⟨w.heap.size + 1, 0, none⟩ = some (.int .i64 0) := (HRES.out.more (((HMm.out.trans HM8.out).trans HM3.out).trans HM6.out)).cell rfl
          have t1 : w6.cell? ⟨w.heap.size + 1, 1, none⟩ = some (.int .i64 0) := (HRES.out.more (((HMm.out.trans HM8.out).trans HM3.out).trans HM6.out)).cell rfl
          have u0 : w6.frozen? ⟨w.heap.size + 1, 0, none⟩ = false := (HRES.out.more (((HMm.out.trans HM8.out).trans HM3.out).trans HM6.out)).frozen 0
          have u1 : w6.frozen? ⟨w.heap.size + 1, 1, none⟩ = false := (HRES.out.more (((HMm.out.trans HM8.out).trans HM3.out).trans HM6.out)).frozen 1
          go_wp2
          refine bodyPost_ret (v := flt 4 k) (by simp [flt, results, Try.results6, go_sem, *]) rfl ?_
          have hE := HP.out L HV2.out.2 _ (((HM0.out.trans (((HMm.out.trans HM8.out).trans HM3.out).trans HM6.out)).setCell (a := ⟨w.heap.size + 1, 0, none⟩) (by dsimp only; omega) (.int .i64 4)).setCell (a := ⟨w.heap.size + 1, 1, none⟩) (by dsimp only; omega) (.int .i64 k)).drew
          rw [Hck.out] at hE
          exact hE
         | false =>
          by_cases hn0 : n < 0
          ·have hdn : decide (n < 0) = true := by simp [hn0]
           have Hbd : Hid (boundK p (p.ins k) s = true) := by show _ = _; rw [HbK.out, hdn]; rfl
           iterate 3 (refine wpOrd_take rfl (by kernel_rfl) (fun K hK => ?_); go_simp; refine hK _ _ ?_; clear hK K)
           refine wpOrd_pickF rfl rfl (by kernel_rfl) rfl (fun K hK => ?_); go_simp; refine hK _ _ ?_; clear hK K
           (refine wpOrd_take rfl (by kernel_rfl) (fun K hK => ?_); go_simp; refine hK _ _ ?_; clear hK K)
           iterate 10 (refine wpOrd_pass rfl HX0 (by kernel_rfl) (fun K hK => ?_); go_simp; refine hK _ _ ?_; clear hK K)
           refine wpOrd_pickT rfl rfl (by kernel_rfl) rfl (fun K hK => ?_); go_simp; refine hK _ _ ?_; clear hK K
           (refine wpOrd_take rfl (by kernel_rfl) (fun K hK => ?_); go_simp; refine hK _ _ ?_; clear hK K)
           have Hck : Hid (checkK p L = (4, (k : Int))) := by
            show _ = _
            have hf : faultK p k s = 4 := by unfold faultK; rw [Hbd.out, Bool.or_true]; rfl
            rw [Hn2.out, hf]; rfl
           refine wpOrd_done ?_
           clear x0 x1 x2 x3 x4 x5 hneX HX0
           have HMz : Hid (More W0 w6.drew) := (((HMm.out.trans HM8.out).trans HM3.out).trans HM6.out).drew
           have t0 : w6.cell? ⟨w.heap.size + 1, 0, none⟩ = some (.int .i64 0) := (HRES.out.more (((HMm.out.trans HM8.out).trans HM3.out).trans HM6.out)).cell rfl
           have t1 : w6.cell? ⟨w.heap.size + 1, 1, none⟩ = some (.int .i64 0) := (HRES.out.more (((HMm.out.trans HM8.out).trans HM3.out).trans HM6.out)).cell rfl
           have u0 : w6.frozen? ⟨w.heap.size + 1, 0, none⟩ = false := (HRES.out.more (((HMm.out.trans HM8.out).trans HM3.out).trans HM6.out)).frozen 0
           have u1 : w6.frozen? ⟨w.heap.size + 1, 1, none⟩ = false := (HRES.out.more (((HMm.out.trans HM8.out).trans HM3.out).trans HM6.out)).frozen 1
           go_wp2
           refine bodyPost_ret (v := flt 4 k) (by simp [flt, results, Try.results6, go_sem, *]) rfl ?_
           have hE := HP.out L HV2.out.2 _ (((HM0.out.trans (((HMm.out.trans HM8.out).trans HM3.out).trans HM6.out)).setCell (a := ⟨w.heap.size + 1, 0, none⟩) (by dsimp only; omega) (.int .i64 4)).setCell (a := ⟨w.heap.size + 1, 1, none⟩) (by dsimp only; omega) (.int .i64 k)).drew
           rw [Hck.out] at hE
           exact hE
          ·have hdn : decide (n < 0) = false := by simp [hn0]
           iterate 3 (refine wpOrd_take rfl (by kernel_rfl) (fun K hK => ?_); go_simp; refine hK _ _ ?_; clear hK K)
           refine wpOrd_pickF rfl rfl (by kernel_rfl) rfl (fun K hK => ?_); go_simp; refine hK _ _ ?_; clear hK K
           iterate 11 (refine wpOrd_take rfl (by kernel_rfl) (fun K hK => ?_); go_simp; refine hK _ _ ?_; clear hK K)
           refine wpOrd_pickF rfl rfl (by kernel_rfl) rfl (fun K hK => ?_); go_simp; refine hK _ _ ?_; clear hK K
           (refine wpOrd_take rfl (by kernel_rfl) (fun K hK => ?_); go_simp; refine hK _ _ ?_; clear hK K)
           by_cases hlv : lg < vb
           ·have Hbd : Hid (boundK p (p.ins k) s = true) := by show _ = _; rw [HbK.out, hdn, decide_eq_true hlv]; rfl
            have Hck : Hid (checkK p L = (4, (k : Int))) := by
             show _ = _
             have hf : faultK p k s = 4 := by unfold faultK; rw [Hbd.out, Bool.or_true]; rfl
             rw [Hn2.out, hf]; rfl
            refine wpOrd_done ?_
            clear x0 x1 x2 x3 x4 x5 hneX HX0
            have HMz : Hid (More W0 w6.drew) := (((HMm.out.trans HM8.out).trans HM3.out).trans HM6.out).drew
            have t0 : w6.cell? ⟨w.heap.size + 1, 0, none⟩ = some (.int .i64 0) := (HRES.out.more (((HMm.out.trans HM8.out).trans HM3.out).trans HM6.out)).cell rfl
            have t1 : w6.cell? ⟨w.heap.size + 1, 1, none⟩ = some (.int .i64 0) := (HRES.out.more (((HMm.out.trans HM8.out).trans HM3.out).trans HM6.out)).cell rfl
            have u0 : w6.frozen? ⟨w.heap.size + 1, 0, none⟩ = false := (HRES.out.more (((HMm.out.trans HM8.out).trans HM3.out).trans HM6.out)).frozen 0
            have u1 : w6.frozen? ⟨w.heap.size + 1, 1, none⟩ = false := (HRES.out.more (((HMm.out.trans HM8.out).trans HM3.out).trans HM6.out)).frozen 1
            go_wp2
            refine bodyPost_ret (v := flt 4 k) (by simp [flt, results, Try.results6, go_sem, *]) rfl ?_
            have hE := HP.out L HV2.out.2 _ (((HM0.out.trans (((HMm.out.trans HM8.out).trans HM3.out).trans HM6.out)).setCell (a := ⟨w.heap.size + 1, 0, none⟩) (by dsimp only; omega) (.int .i64 4)).setCell (a := ⟨w.heap.size + 1, 1, none⟩) (by dsimp only; omega) (.int .i64 k)).drew
            rw [Hck.out] at hE
            exact hE
           ·have hdl : decide (lg < vb) = false := by simp [hlv]
            have Hno : Hid ((outK p k || boundK p (p.ins k) s) = false) := by show _ = _; rw [← HO.out, HbK.out, hdn, hdl]; rfl
            refine wpOrd_done ?_
            clear x0 x1 x2 x3 x4 x5 hneX HX0
            have HMd : Hid (More w3 w6.drew) := HM6.out.drew
            obtain ⟨w7, Hw7⟩ : ∃ w7 : World, Hid (w7 = w6.drew) := ⟨_, rfl⟩
            have HMe : Hid (More w3 w7) := Hw7.out ▸ HMd.out
            rw [← Hw7.out]
            have HMx : Hid (More wm w7) := (HM8.out.trans HM3.out).trans HMe.out
            have HBx : Hid (Blk w7 wm.heap.size #[.int .i64 _, .int .i64 a, .int .i64 b, .int .i64 ic, .int .i64 n] 55) := (HB8.out.more HM3.out).more HMe.out
            obtain ⟨U, HU⟩ : ∃ U : World → Prop, Hid (∀ w', U w' ↔ More w7 w') := ⟨_, fun _ => Iff.rfl⟩
            have HU0 : U w7.drew := (HU.out _).2 (More.refl _).drew
            have hneU : Nonempty { w' // U w' } := ⟨⟨_, HU0⟩⟩
            have g0 : ∀ i : { w' // U w' }, i.val.cell? ⟨w.heap.size, 0, none⟩ = some (.slice (some ⟨rb, ro, none⟩) p.rl rc) := fun i => (HMx.out.trans ((HU.out _).1 i.property)).cell p0
            have g1 : ∀ i : { w' // U w' }, i.val.cell? ⟨w.heap.size, 1, none⟩ = some (.slice (some ⟨cb, co, none⟩) cl cc) := fun i => (HMx.out.trans ((HU.out _).1 i.property)).cell p1
            have g2 : ∀ i : { w' // U w' }, i.val.cell? ⟨lb, k * 2 + 1, none⟩ = some (.slice (some ⟨gs, 0, none⟩) 8 cs) := fun i => (HMx.out.trans ((HU.out _).1 i.property)).cell c1
            have g3 : ∀ i : { w' // U w' }, i.val.cell? ⟨wm.heap.size, 0, none⟩ = some (.int .i64 _) := fun i => (HBx.out.more ((HU.out _).1 i.property)).cell rfl
            have g4 : ∀ i : { w' // U w' }, i.val.cell? ⟨wm.heap.size, 1, none⟩ = some (.int .i64 a) := fun i => (HBx.out.more ((HU.out _).1 i.property)).cell rfl
            have g5 : ∀ i : { w' // U w' }, i.val.cell? ⟨wm.heap.size, 2, none⟩ = some (.int .i64 b) := fun i => (HBx.out.more ((HU.out _).1 i.property)).cell rfl
            have g6 : ∀ i : { w' // U w' }, i.val.cell? ⟨wm.heap.size, 3, none⟩ = some (.int .i64 ic) := fun i => (HBx.out.more ((HU.out _).1 i.property)).cell rfl
            have g7 : ∀ i : { w' // U w' }, i.val.cell? ⟨wm.heap.size, 4, none⟩ = some (.int .i64 n) := fun i => (HBx.out.more ((HU.out _).1 i.property)).cell rfl
            go_wp2_with (fail)
            refine wp_region_ord (S := U) [(0, true), (1, true), (2, true), (3, true), (4, true), (5, true), (6, true), (7, false)] (by kernel_rfl) (by kernel_rfl) (by kernel_rfl) HU0 ?_
            iterate 7 (refine wpOrd_take rfl (by kernel_rfl) (fun K hK => ?_); go_simp; refine hK _ _ ?_; clear hK K)
            refine wpOrd_busy rfl (by kernel_rfl) (fun K hK => ?_); go_simp
            refine (Csec.out _ (HMx.out.drew)).mono ?_
            rintro e w9 ⟨rfl, m9⟩
            have HM9 : Hid (More w7 w9) := (More.refl _).drew.trans m9
            have HU9 : U w9 := (HU.out _).2 HM9.out
            clear m9
            cases sc with
            | true =>
             have Hck : Hid (checkK p L = (5, (k : Int))) := by
              show _ = _
              have hf : faultK p k s = 5 := by unfold faultK; rw [Hno.out, Hsc2.out]; rfl
              rw [Hn2.out, hf]; rfl
             go_simp
             refine hK _ _ HU9 ?_; clear hK K
             refine wpOrd_done ?_
             clear g0 g1 g2 g3 g4 g5 g6 g7 hneU HU0 HU9
             have t0 := (HRES.out.more ((HMm.out.trans HMx.out).trans HM9.out)).cell (j := 0) (v := .int .i64 0) rfl
             have t1 := (HRES.out.more ((HMm.out.trans HMx.out).trans HM9.out)).cell (j := 1) (v := .int .i64 0) rfl
             have u0 := (HRES.out.more ((HMm.out.trans HMx.out).trans HM9.out)).frozen 0
             have u1 := (HRES.out.more ((HMm.out.trans HMx.out).trans HM9.out)).frozen 1
             go_wp2
             refine bodyPost_ret (v := flt 5 k) (by simp [flt, results, Try.results6, go_sem, *]) rfl ?_
             have hE := HP.out L HV2.out.2 _ (((HM0.out.trans ((HMm.out.trans HMx.out).trans HM9.out)).setCell (a := ⟨w.heap.size + 1, 0, none⟩) (by dsimp only; omega) (.int .i64 5)).setCell (a := ⟨w.heap.size + 1, 1, none⟩) (by dsimp only; omega) (.int .i64 k))
             rw [Hck.out] at hE
             exact hE
            | false =>
             have Hck : Hid (checkK p L = scanK p L g (k + 1)) := by
              show _ = _
              have hf : faultK p k s = 0 := by unfold faultK; rw [Hno.out, Hsc2.out]; rfl
              rw [Hn2.out, if_pos hf]
             go_simp
             refine hK _ _ HU9 ?_; clear hK K
             refine wpOrd_done ?_
             clear g0 g1 g2 g3 g4 g5 g6 g7 hneU HU0 HU9
             go_wp2
             go_roundg g
             case measure => omega
             case rel => exact ⟨k + 1, by omega, by first | rfl | simp, (HMw.out.trans HMx.out).trans HM9.out, Hck.out⟩
      ·have e3 : (op == 3) = false := by simp; omega
       have e4 : (op == 4) = false := by simp; omega
       have Hbd : Hid (boundK p (p.ins k) s = false) := by
        show _ = _
        unfold boundK; rw [HI.out]; dsimp only
        simp; omega
       clear hop
       cases bb with
       | true =>
        have Hck : Hid (checkK p L = (4, (k : Int))) := by
         show _ = _
         have hf : faultK p k s = 4 := by unfold faultK; rw [← HO.out]; rfl
         rw [Hn2.out, hf]; rfl
        have t0 := (HRES.out.more ((HMm.out.trans HM8.out).trans HM3.out)).cell (j := 0) (v := .int .i64 0) rfl
        have t1 := (HRES.out.more ((HMm.out.trans HM8.out).trans HM3.out)).cell (j := 1) (v := .int .i64 0) rfl
        have u0 := (HRES.out.more ((HMm.out.trans HM8.out).trans HM3.out)).frozen 0
        have u1 := (HRES.out.more ((HMm.out.trans HM8.out).trans HM3.out)).frozen 1
        go_wp2
        refine bodyPost_ret (v := flt 4 k) (by simp [flt, results, Try.results6, go_sem, *]) rfl ?_
        have hE := HP.out L HV2.out.2 _ (((HM0.out.trans ((HMm.out.trans HM8.out).trans HM3.out)).setCell (a := ⟨w.heap.size + 1, 0, none⟩) (by dsimp only; omega) (.int .i64 4)).setCell (a := ⟨w.heap.size + 1, 1, none⟩) (by dsimp only; omega) (.int .i64 k))
        rw [Hck.out] at hE
        exact hE
       | false =>
        have Hno : Hid ((outK p k || boundK p (p.ins k) s) = false) := by show _ = _; rw [← HO.out, Hbd.out]; rfl
        have HMx : Hid (More wm w3) := (HM8.out.trans HM3.out).trans Hrf.out
        have HBx : Hid (Blk w3 wm.heap.size #[.int .i64 op, .int .i64 a, .int .i64 b, .int .i64 ic, .int .i64 n] 55) := (HB8.out.more HM3.out).more Hrf.out
        obtain ⟨U, HU⟩ : ∃ U : World → Prop, Hid (∀ w', U w' ↔ More w3 w') := ⟨_, fun _ => Iff.rfl⟩
        have HU0 : U w3.drew := (HU.out _).2 (More.refl _).drew
        have hneU : Nonempty { w' // U w' } := ⟨⟨_, HU0⟩⟩
        have g0 : ∀ i : { w' // U w' }, i.val.cell? ⟨w.heap.size, 0, none⟩ = some (.slice ra p.rl rc) := fun i => (HMx.out.trans ((HU.out _).1 i.property)).cell p0
        have g1 : ∀ i : { w' // U w' }, i.val.cell? ⟨w.heap.size, 1, none⟩ = some (.slice (some ⟨cb, co, none⟩) cl cc) := fun i => (HMx.out.trans ((HU.out _).1 i.property)).cell p1
        have g2 : ∀ i : { w' // U w' }, i.val.cell? ⟨lb, k * 2 + 1, none⟩ = some (.slice (some ⟨gs, 0, none⟩) 8 cs) := fun i => (HMx.out.trans ((HU.out _).1 i.property)).cell c1
        have g3 : ∀ i : { w' // U w' }, i.val.cell? ⟨wm.heap.size, 0, none⟩ = some (.int .i64 op) := fun i => (HBx.out.more ((HU.out _).1 i.property)).cell rfl
        have g4 : ∀ i : { w' // U w' }, i.val.cell? ⟨wm.heap.size, 1, none⟩ = some (.int .i64 a) := fun i => (HBx.out.more ((HU.out _).1 i.property)).cell rfl
        have g5 : ∀ i : { w' // U w' }, i.val.cell? ⟨wm.heap.size, 2, none⟩ = some (.int .i64 b) := fun i => (HBx.out.more ((HU.out _).1 i.property)).cell rfl
        have g6 : ∀ i : { w' // U w' }, i.val.cell? ⟨wm.heap.size, 3, none⟩ = some (.int .i64 ic) := fun i => (HBx.out.more ((HU.out _).1 i.property)).cell rfl
        have g7 : ∀ i : { w' // U w' }, i.val.cell? ⟨wm.heap.size, 4, none⟩ = some (.int .i64 n) := fun i => (HBx.out.more ((HU.out _).1 i.property)).cell rfl
        go_wp2_with (fail)
        refine wp_region_ord (S := U) [(0, true), (1, true), (2, true), (3, true), (4, true), (5, true), (6, true), (7, false)] (by kernel_rfl) (by kernel_rfl) (by kernel_rfl) HU0 ?_
        iterate 7 (refine wpOrd_take rfl (by kernel_rfl) (fun K hK => ?_); go_simp; refine hK _ _ ?_; clear hK K)
        refine wpOrd_busy rfl (by kernel_rfl) (fun K hK => ?_); go_simp
        refine (Csec.out _ (HMx.out.drew)).mono ?_
        rintro e w9 ⟨rfl, m9⟩
        have HM9 : Hid (More w3 w9) := (More.refl _).drew.trans m9
        have HU9 : U w9 := (HU.out _).2 HM9.out
        clear m9
        cases sc with
        | true =>
         have Hck : Hid (checkK p L = (5, (k : Int))) := by
          show _ = _
          have hf : faultK p k s = 5 := by unfold faultK; rw [Hno.out, Hsc2.out]; rfl
          rw [Hn2.out, hf]; rfl
         go_simp
         refine hK _ _ HU9 ?_; clear hK K
         refine wpOrd_done ?_
         clear g0 g1 g2 g3 g4 g5 g6 g7 hneU HU0 HU9
         have t0 := (HRES.out.more ((HMm.out.trans HMx.out).trans HM9.out)).cell (j := 0) (v := .int .i64 0) rfl
         have t1 := (HRES.out.more ((HMm.out.trans HMx.out).trans HM9.out)).cell (j := 1) (v := .int .i64 0) rfl
         have u0 := (HRES.out.more ((HMm.out.trans HMx.out).trans HM9.out)).frozen 0
         have u1 := (HRES.out.more ((HMm.out.trans HMx.out).trans HM9.out)).frozen 1
         go_wp2
         refine bodyPost_ret (v := flt 5 k) (by simp [flt, results, Try.results6, go_sem, *]) rfl ?_
         have hE := HP.out L HV2.out.2 _ (((HM0.out.trans ((HMm.out.trans HMx.out).trans HM9.out)).setCell (a := ⟨w.heap.size + 1, 0, none⟩) (by dsimp only; omega) (.int .i64 5)).setCell (a := ⟨w.heap.size + 1, 1, none⟩) (by dsimp only; omega) (.int .i64 k))
         rw [Hck.out] at hE
         exact hE
        | false =>
         have Hck : Hid (checkK p L = scanK p L g (k + 1)) := by
          show _ = _
          have hf : faultK p k s = 0 := by unfold faultK; rw [Hno.out, Hsc2.out]; rfl
          rw [Hn2.out, if_pos hf]
         go_simp
         refine hK _ _ HU9 ?_; clear hK K
         refine wpOrd_done ?_
         clear g0 g1 g2 g3 g4 g5 g6 g7 hneU HU0 HU9
         go_wp2
         go_roundg g
         case measure => omega
         case rel => exact ⟨k + 1, by omega, by first | rfl | simp, (HMw.out.trans HMx.out).trans HM9.out, Hck.out⟩
end
section
open Go.RowKit
set_option maxHeartbeats 1000000 in
theorem ref_memories (x y : Mem) (l l' : MLoc) (w : World) (hx : MIn w x l) (hy : MIn w y l') (hl : x.Like y) :
  Calls Try.prog 28 #[.slice l.ma x.ml l.mc, .slice l'.ma y.ml l'.mc] w fun e w' => e = .returned (.bool true) ∧ More w w' := by
 obtain ⟨ma, mb, mo, mc, A, C, gb, go⟩ := l
 obtain ⟨ma', mb', mo', mc', A', C', gb', go'⟩ := l'
 have H : Hid (MIn w x ⟨ma, mb, mo, mc, A, C, gb, go⟩ ∧ MIn w y ⟨ma', mb', mo', mc', A', C', gb', go'⟩ ∧ x.Like y) := ⟨hx, hy, hl⟩
 clear hx hy hl
 obtain ⟨n, hn⟩ : ∃ n, x.ml = n := ⟨_, rfl⟩
 have hn' : y.ml = n := by rw [← H.out.2.2.ml]; exact hn
 dsimp only
 rw [hn, hn']
 have Hn : Hid (x.ml = n ∧ y.ml = n) := ⟨hn, hn'⟩
 clear hn hn'
 go_enter Try.func28, Try.ntmps28
 go_wp2
 go_loopg [5] n (fun q i wr => ∃ k : Nat, k + q = n ∧ i = .int .i64 k ∧ More w wr)
 case atStart => exact ⟨0, by omega, rfl, More.refl _⟩
 case round =>
  obtain ⟨k, hkg, rfl, m⟩ := hrel
  have Hm : Hid (More w wr) := m
  clear m
  cases gk with
  | zero =>
   obtain rfl : k = n := by omega
   go_wp2
   go_ret
   exact ⟨rfl, Hm.out⟩
  | succ q =>
   have hk : k < n := by omega
   have hk' : (k : Int) < (n : Int) := by omega
   have hk0 : (0 : Int) ≤ (k : Int) := by omega
   have Hk : Hid (k < x.ml ∧ k < y.ml) := ⟨by rw [Hn.out.1]; exact hk, by rw [Hn.out.2]; exact hk⟩
   obtain rfl : ma = some ⟨mb, mo, none⟩ := H.out.1.hm (by have := Hk.out.1; omega)
   obtain rfl : ma' = some ⟨mb', mo', none⟩ := H.out.2.1.hm (by have := Hk.out.2; omega)
   have q1 := H.out.1.lists k Hk.out.1
   have q2 := H.out.2.1.lists k Hk.out.2
   dsimp only at q1 q2
   rw [← H.out.2.2.len k Hk.out.1] at q2
   obtain ⟨r, hr⟩ : ∃ r, x.len k = r := ⟨_, rfl⟩
   rw [hr] at q1 q2
   have HR : Hid (x.len k = r ∧ r < 4611686018427387904) := ⟨hr, by rw [← hr]; exact H.out.1.fitw k Hk.out.1⟩
   clear hr
   have Ha : Hid (0 < r → A k = some ⟨gb k, go k, none⟩) := fun h => H.out.1.hg k Hk.out.1 (by rw [HR.out.1]; exact h)
   have Ha' : Hid (0 < r → A' k = some ⟨gb' k, go' k, none⟩) := fun h => H.out.2.1.hg k Hk.out.2 (by rw [← H.out.2.2.len k Hk.out.1, HR.out.1]; exact h)
   obtain ⟨Ak, hA⟩ : ∃ z, A k = z := ⟨_, rfl⟩
   obtain ⟨Ak', hA'⟩ : ∃ z, A' k = z := ⟨_, rfl⟩
   rw [hA] at q1 Ha
   rw [hA'] at q2 Ha'
   clear hA hA'
   have Hq : Hid (w.cell? ⟨mb, mo + k, none⟩ = some (.slice Ak r (C k)) ∧ w.cell? ⟨mb', mo' + k, none⟩ = some (.slice Ak' r (C' k))) := ⟨q1, q2⟩
   obtain ⟨S, HS⟩ : ∃ S : World → Prop, Hid (∀ w', S w' ↔ More wr w') := ⟨fun w' => More wr w', fun _ => Iff.rfl⟩
   have k0 : ∀ i : { w' // S w' }, i.val.cell? ⟨mb, mo + k, none⟩ = some (.slice Ak r (C k)) := fun i => ((HS.out _).1 i.property).cell (Hm.out.cell q1)
   have k1 : ∀ i : { w' // S w' }, i.val.cell? ⟨mb', mo' + k, none⟩ = some (.slice Ak' r (C' k)) := fun i => ((HS.out _).1 i.property).cell (Hm.out.cell q2)
   have hne : Nonempty { w' // S w' } := ⟨⟨wr, (HS.out _).2 (More.refl _)⟩⟩
   clear q1 q2
   go_wp2_with (fail)
   refine wp_region_ord (S := S) [(0, true), (1, true), (2, true), (3, true), (4, true), (5, true), (6, true), (7, true), (8, true), (9, true), (10, true)] (by kernel_rfl) (by kernel_rfl) (by kernel_rfl) ((HS.out _).2 (More.refl _).drew) ?_
   iterate 11 (refine wpOrd_take rfl (by kernel_rfl) (fun K hK => ?_); go_simp; refine hK _ _ ?_; clear hK K)
   refine wpOrd_done ?_
   clear k0 k1 hne
   go_wp2
   go_loopg [6] r (fun g i wq => ∃ j : Nat, j + g = r ∧ i = .int .i64 j ∧ More w wq)
   case atStart => exact ⟨0, by omega, rfl, Hm.out.drew⟩
   case round =>
    obtain ⟨j, hjg, rfl, mq⟩ := hrel
    have q1 := mq.cell Hq.out.1
    have q2 := mq.cell Hq.out.2
    have Hmq : Hid (More w wr) := mq
    clear mq
    cases gk with
    | zero =>
     obtain rfl : j = r := by omega
     go_wp2
     go_roundg q
     case measure => omega
     case rel => exact ⟨k + 1, by omega, by first | rfl | (simp; unfold wrap64; have := H.out.1.fitl; have := Hn.out.1; omega), Hmq.out⟩
    | succ g =>
     have hj : j < r := by omega
     have hj' : (j : Int) < (r : Int) := by omega
     have hj0 : (0 : Int) ≤ (j : Int) := by omega
     obtain rfl := Ha.out (by omega)
     obtain rfl := Ha'.out (by omega)
     have p1 := Hmq.out.cell (H.out.1.words k Hk.out.1 j (by rw [HR.out.1]; exact hj))
     have p2 := Hmq.out.cell (H.out.2.1.words k Hk.out.2 j (by rw [← H.out.2.2.len k Hk.out.1, HR.out.1]; exact hj))
     rw [← H.out.2.2.wd k Hk.out.1 j (by rw [HR.out.1]; exact hj)] at p2
     dsimp only at p1 p2
     obtain ⟨z, hz⟩ : ∃ z, x.wd k j = z := ⟨_, rfl⟩
     rw [hz] at p1 p2
     clear hz
     obtain ⟨S, HS⟩ : ∃ S : World → Prop, Hid (∀ w', S w' ↔ More wr w') := ⟨fun w' => More wr w', fun _ => Iff.rfl⟩
     have k0 : ∀ i : { w' // S w' }, i.val.cell? ⟨mb, mo + k, none⟩ = some (.slice (some ⟨gb k, go k, none⟩) r (C k)) := fun i => ((HS.out _).1 i.property).cell q1
     have k1 : ∀ i : { w' // S w' }, i.val.cell? ⟨mb', mo' + k, none⟩ = some (.slice (some ⟨gb' k, go' k, none⟩) r (C' k)) := fun i => ((HS.out _).1 i.property).cell q2
     have k2 : ∀ i : { w' // S w' }, i.val.cell? ⟨gb k, go k + j, none⟩ = some (.int .i64 z) := fun i => ((HS.out _).1 i.property).cell p1
     have k3 : ∀ i : { w' // S w' }, i.val.cell? ⟨gb' k, go' k + j, none⟩ = some (.int .i64 z) := fun i => ((HS.out _).1 i.property).cell p2
     have hne : Nonempty { w' // S w' } := ⟨⟨wr, (HS.out _).2 (More.refl _)⟩⟩
     go_wp2_with (fail)
     refine wp_region_ord (S := S) [(0, true), (1, true), (2, true), (3, true), (4, true), (5, true), (6, true), (7, true), (8, true), (9, true), (10, true), (11, true), (12, true), (13, true), (14, true)] (by kernel_rfl) (by kernel_rfl) (by kernel_rfl) ((HS.out _).2 (More.refl _).drew) ?_
     iterate 15 (refine wpOrd_take rfl (by kernel_rfl) (fun K hK => ?_); go_simp; refine hK _ _ ?_; clear hK K)
     refine wpOrd_done ?_
     clear k0 k1 k2 k3 hne p1 p2 q1 q2
     go_wp2
     go_roundg g
     case measure => omega
     case rel => exact ⟨j + 1, by omega, by first | rfl | (simp; unfold wrap64; have := HR.out.2; omega), Hmq.out.drew⟩
end
section
open Go.RowKit
set_option linter.unusedSimpArgs false
set_option linter.unusedVariables false
set_option maxRecDepth 8000
/-- evenkeelref6.Check, whatever the program. -/
theorem check6_told (p : Prg) (l : Loc) (w : World) (hp : PIn w p l) (hf : p.Fit) :
  Calls Try.prog 6 #[.agg #[.slice l.ra p.rl l.rc, .slice l.ca p.cl l.cc]] w fun e w' => ∃ f : Int × Int, Told p f ∧ e = .returned (.agg #[.int .i64 f.1, .int .i64 f.2]) ∧ More w w' := by
 by_cases hok : p.Ok 200 8
 ·refine (check6_ok p l w hp hok (fun i hi => (hf.ins i hi).2.2.2.2) (fun w1 m1 => may_true p l w1 (hp.more m1) hok)).mono ?_
  rintro e w' ⟨l', h1, rfl, m⟩
  exact ⟨_, .inr ⟨hok, l', h1, rfl⟩, rfl, m⟩
 ·refine (check6_form _ _ ⟨_, _, _, rfl⟩ ⟨_, _, _, rfl⟩ w (fun w2 m2 => ?_)).mono (fun e w' ⟨h1, h2⟩ => ⟨(2, 0), .inl ⟨hok, rfl⟩, h1, h2⟩)
  refine (ref_may p l _ (hp.more m2)).mono ?_
  rintro e w' ⟨r, rfl, hr, m⟩
  cases r with
  | false => exact ⟨rfl, m⟩
  | true => exact absurd (hr.1 rfl) hok
set_option maxHeartbeats 2000000 in
/-- The law's same, where the one does what the other one does. -/
theorem same_of (x1 x2 x3 y1 y2 y3 : Int) (su sv mu mv : Value) (w : World) (hsu : ∃ a n c, su = .slice a n c) (hsv : ∃ a n c, sv = .slice a n c) (hmu : ∃ a n c, mu = .slice a n c) (hmv : ∃ a n c, mv = .slice a n c)
  (h : y1 = 0 ∨ (x1 = y1 ∧ x2 = y2 ∧ ∀ w1 : World, More w w1 → Calls Try.prog 28 #[mu, mv] w1 fun e w' => e = .returned (.bool true) ∧ More w1 w')) :
  Calls Try.prog 10 #[.agg #[.int .i64 x1, .int .i64 x2, .int .i64 x3, su, mu], .agg #[.int .i64 y1, .int .i64 y2, .int .i64 y3, sv, mv]] w fun e w' => e = .returned (.bool true) ∧ More w w' := by
 obtain ⟨a3, n3, cc3, rfl⟩ := hsu
 obtain ⟨a4, n4, cc4, rfl⟩ := hsv
 obtain ⟨a5, n5, cc5, rfl⟩ := hmu
 obtain ⟨a6, n6, cc6, rfl⟩ := hmv
 rcases h with rfl | ⟨rfl, rfl, h⟩
 ·go_enter Try.func10, Try.ntmps10
  go_wp2
  go_ret
  exact ⟨rfl, ((More.refl _).alloc _ _).alloc _ _⟩
 ·have C : Hid (∀ w1 : World, More w w1 → Calls Try.prog 28 #[.slice a5 n5 cc5, .slice a6 n6 cc6] w1 fun e w' => e = .returned (.bool true) ∧ More w1 w') := h
  clear h
  by_cases h0 : x1 = 0
  ·subst h0
   go_enter Try.func10, Try.ntmps10
   go_wp2
   go_ret
   exact ⟨rfl, ((More.refl _).alloc _ _).alloc _ _⟩
  ·have e0 : (x1 == 0) = false := by simp [h0]
   clear h0
   go_enter Try.func10, Try.ntmps10
   go_wp2_with (fail)
   refine (C.out _ (((More.refl _).alloc _ _).alloc _ _)).mono ?_
   rintro e w1 ⟨rfl, m1⟩
   have Hm : Hid (More w w1) := (((More.refl _).alloc _ _).alloc _ _).trans m1
   clear m1
   go_wp2
   go_ret
   exact ⟨rfl, Hm.out⟩

/-- Hard, and with the same regions. -/
structure Like8 (p h : Prg) : Prop where
 ok : h.Ok 8000 10
 fit : h.Fit
 rl : p.rl = h.rl
 reg : ∀ i, i < p.rl → p.log i = h.log i ∧ p.sec i = h.sec i
theorem Like8.fits {p h : Prg} (k : Like8 p h) {ml : Nat} {len : Nat → Nat} (hf : FitsOk p.rl p.log ml len) : FitsOk h.rl h.log ml len :=
 ⟨k.ok.1, hf.2.1.trans k.rl, fun i hi => by rw [hf.2.2 i (by rw [k.rl]; exact hi), (k.reg i (by rw [k.rl]; exact hi)).1]⟩

/-- One program does what another one does, if that ends, with so many times the steps. -/
def DoesSame (p h : Prg) (k top : Nat) : Prop := ∀ (m : Mem), FitsOk p.rl p.log m.ml m.len → (∀ j, j < m.ml → ∀ i, i < m.len j → B64 (m.wd j i)) → ∀ f : Nat, f ≤ top →
 (playI p m f).fin = 0 ∨ ((playI h m (k * f + k)).fin = (playI p m f).fin ∧ (playI h m (k * f + k)).val = (playI p m f).val ∧ (playI h m (k * f + k)).mem.Like (playI p m f).mem)
end
section
open Go.RowKit
set_option linter.unusedSimpArgs false
set_option linter.unusedVariables false
theorem Mem.like_refl (x : Mem) : x.Like x := ⟨rfl, fun _ _ => rfl, fun _ _ _ _ => rfl⟩

/-- An instruction reads no register from 8 on. -/
theorem regs_low {p : Prg} {i : Ins} (hi : InsOk p.rl p.log p.cl 8 i) (h : ¬ (i.op = 3 ∨ i.op = 4 ∨ i.op = 5 ∨ i.op = 6 ∨ i.op = 7 ∨ i.op = 8 ∨ i.op = 9)) {r t : Nat → Int} (hr : ∀ j, j < 8 → t j = r j) : ∀ j, j < 8 → (regsI t i).1 j = (regsI r i).1 j := fun j hj => by
 have hg := regs_of hi
 have hs : ∀ x y, x = y → setR t i.a x j = setR r i.a y j := fun x y e => by
  unfold setR
  by_cases c : j = i.a.toNat
  ·rw [if_pos c, if_pos c, e]
  ·rw [if_neg c, if_neg c]; exact hr j hj
 unfold regsI
 by_cases q1 : i.op = 1
 ·rw [if_pos q1, if_pos q1]; exact hs _ _ rfl
 rw [if_neg q1, if_neg q1]
 by_cases q2 : i.op = 2
 ·rw [if_pos q2, if_pos q2]; exact hs _ _ (hr _ (hg.2.1 (by omega)))
 rw [if_neg q2, if_neg q2]
 by_cases q10 : i.op = 10
 ·rw [if_pos q10, if_pos q10]; exact hs _ _ (by rw [hr _ (hg.2.1 (by omega))])
 rw [if_neg q10, if_neg q10]
 by_cases q11 : i.op = 11
 ·rw [if_pos q11, if_pos q11]
  dsimp only
  rw [hr _ (hg.1 (by omega))]
  split
  ·exact hs _ _ rfl
  ·exact hr j hj
 rw [if_neg q11, if_neg q11]
 by_cases q12 : i.op = 12
 ·rw [if_pos q12, if_pos q12]; exact hr j hj
 rw [if_neg q12, if_neg q12]
 exact hs _ _ (by rw [hr _ (hg.2.1 (by omega)), hr _ (hg.2.2.1 (by omega))])

/-- The hardened one stands where that is now. -/
structure Rel (st : Nat → Nat) (s t : St) : Prop where
 at_ : t.at_ = st s.at_
 r : ∀ j, j < 8 → t.r j = s.r j
 m : t.m = s.m

theorem step_eq_go {p : Prg} {s : St} {i : Ins} (hI : p.ins s.at_ = i) (h7 : i.op = 7) : stepI p s = (⟨i.n.toNat, s.r, s.m, s.seen ++ [⟨1, s.at_, 0⟩]⟩, none) := by
 subst hI
 unfold stepI
 rw [if_pos h7]
theorem step_eq_cond {p : Prg} {s : St} {i : Ins} (hI : p.ins s.at_ = i) (h8 : i.op = 8) : stepI p s = (⟨if holdsI i.c (s.r i.a.toNat) (s.r i.b.toNat) = true then i.n.toNat else s.at_ + 1, s.r, s.m, s.seen ++ [⟨1, s.at_, 0⟩]⟩, none) := by
 subst hI
 unfold stepI
 rw [if_neg (by omega), if_pos h8]
theorem step_eq_stop {p : Prg} {s : St} {i : Ins} (hI : p.ins s.at_ = i) (h9 : i.op = 9) : stepI p s = (⟨s.at_ + 1, s.r, s.m, s.seen ++ [⟨1, s.at_, 0⟩]⟩, some (1, s.r i.a.toNat)) := by
 subst hI
 unfold stepI
 rw [if_neg (by omega), if_neg (by omega), if_pos h9]

section
variable {p h : Prg} {st : Nat → Nat} {X : Int} {l : KV} {m : Mem} {s t : St}

theorem run_on {g k : Nat} {s s' : St} (hat : s.at_ < h.cl) (e : stepI h s = (s', none)) : runI h (g + 1) k s = runI h g (k + 1) s' := by
 rw [runI, if_neg (by omega), e]

theorem Hdn.lt (S : Hdn p h st X) {k o : Nat} (hk : k < p.cl) (ho : o < sizeK p k) : st k + o < h.cl := by
 have := S.mono p.cl k hk (Nat.le_refl _)
 rw [S.cl]; omega

end
section
variable {p h : Prg} {st : Nat → Nat} {X : Int}

/-- Each instruction of it comes from one. -/
theorem Hdn.from_ (S : Hdn p h st X) : ∀ (n : Nat), n ≤ p.cl → ∀ q, q < st n → ∃ k o, k < n ∧ o < sizeK p k ∧ q = st k + o
 | 0, _, q, hq => by rw [S.s0] at hq; omega
 | n + 1, hn, q, hq => by
  have e := S.next n (by omega)
  by_cases c : q < st n
  ·obtain ⟨k, o, h1, h2, h3⟩ := S.from_ n (by omega) q c
   exact ⟨k, o, by omega, h2, h3⟩
  ·exact ⟨n, q - st n, by omega, by omega, by omega⟩
theorem Hdn.most (S : Hdn p h st X) : ∀ (n : Nat), n ≤ p.cl → n ≤ st n ∧ st n ≤ 3 * n
 | 0, _ => by rw [S.s0]; omega
 | n + 1, hn => by
  have e := S.next n (by omega)
  have := S.most n (by omega)
  have := sizeK_pos p n
  omega

theorem insOk_up {rl : Nat} {log log' : Nat → Int} {cl cl' : Nat} {i : Ins} (hi : InsOk rl log cl 8 i) (hl : ∀ c, c < rl → log c = log' c) (h7 : ¬ (i.op = 7 ∨ i.op = 8)) : InsOk rl log' cl' 10 i := by
 have up : ∀ x, Reg 8 x → Reg 10 x := fun x q => by unfold Reg at *; omega
 have wd : ∀ c n, Rgn rl c → Wrd log c n → Wrd log' c n := fun c n q w => by
  unfold Rgn at q
  unfold Wrd at *
  rw [← hl c.toNat (by omega)]; exact w
 unfold InsOk at *
 by_cases q1 : i.op = 1
 ·rw [if_pos q1] at *; exact ⟨up _ hi.1, hi.2⟩
 rw [if_neg q1] at *
 by_cases q2 : i.op = 2
 ·rw [if_pos q2] at *; exact ⟨up _ hi.1, up _ hi.2.1, hi.2.2⟩
 rw [if_neg q2] at *
 by_cases q3 : i.op = 3
 ·rw [if_pos q3] at *; exact ⟨up _ hi.1, up _ hi.2.1, hi.2.2⟩
 rw [if_neg q3] at *
 by_cases q4 : i.op = 4
 ·rw [if_pos q4] at *; exact ⟨up _ hi.1, up _ hi.2.1, hi.2.2⟩
 rw [if_neg q4] at *
 by_cases q5 : i.op = 5
 ·rw [if_pos q5] at *; exact ⟨up _ hi.1, hi.2.1, hi.2.2.1, wd _ _ hi.2.2.1 hi.2.2.2⟩
 rw [if_neg q5] at *
 by_cases q6 : i.op = 6
 ·rw [if_pos q6] at *; exact ⟨up _ hi.1, hi.2.1, hi.2.2.1, wd _ _ hi.2.2.1 hi.2.2.2⟩
 rw [if_neg q6, if_neg (fun q => h7 (.inl q)), if_neg (fun q => h7 (.inr q))] at *
 by_cases q9 : i.op = 9
 ·rw [if_pos q9] at *; exact ⟨up _ hi.1, hi.2⟩
 rw [if_neg q9] at *
 by_cases q10 : i.op = 10
 ·rw [if_pos q10] at *; exact ⟨up _ hi.1, up _ hi.2.1, hi.2.2⟩
 rw [if_neg q10] at *
 by_cases q11 : i.op = 11
 ·rw [if_pos q11] at *; exact ⟨up _ hi.1, hi.2⟩
 rw [if_neg q11] at *
 by_cases q12 : i.op = 12
 ·rw [if_pos q12] at *; exact hi
 rw [if_neg q12] at *
 exact ⟨hi.1, up _ hi.2.1, up _ hi.2.2.1, up _ hi.2.2.2.1, hi.2.2.2.2⟩

theorem hd_ins (S : Hdn p h st X) (ok : p.Ok 200 8) (hf : p.Fit) (q : Nat) (hq : q < h.cl) : InsOk h.rl h.log h.cl 10 (h.ins q) ∧ (h.ins q).fits := by
 rw [S.cl] at hq
 obtain ⟨k, o, hk, ho, rfl⟩ := S.from_ p.cl (Nat.le_refl _) q hq
 have hi := ok.2.2.2 k hk
 have hfit := hf.ins k hk
 unfold Ins.fits at hfit
 have hX : Reg 10 X := by unfold Reg; rcases S.x with e | e <;> omega
 have iX : I64 X := by unfold I64; rcases S.x with e | e <;> omega
 have i0 : I64 0 := by unfold I64; omega
 rw [← S.rl]
 have small := S.most p.cl (Nat.le_refl _)
 have c200 := ok.2.2.1
 by_cases m : (p.ins k).op = 3 ∨ (p.ins k).op = 4
 ·rw [sizeK_mem m] at ho
  obtain ⟨m0, m1, m2⟩ := S.mem k hk m
  have hr : Reg 8 (p.ins k).a ∧ Reg 8 (p.ins k).b ∧ Rgn p.rl (p.ins k).c := by unfold InsOk at hi; rcases m with m | m <;> simpa [m] using hi
  obtain ⟨ra, rb, rc⟩ := hr
  have hcr : (p.ins k).c.toNat < p.rl := by unfold Rgn at rc; omega
  have hlog := ok.1.2 _ hcr
  have h64 := two_pow_le (k := (p.log (p.ins k).c.toNat).toNat) (by omega)
  have ra' : Reg 10 (p.ins k).a := by unfold Reg at *; omega
  have rb' : Reg 10 (p.ins k).b := by unfold Reg at *; omega
  have hoo : o = 0 ∨ o = 1 ∨ o = 2 := by omega
  rcases hoo with rfl | rfl | rfl
  ·rw [Nat.add_zero, m0]
   refine ⟨?_, ⟨by unfold I64; dsimp only; omega, iX, hfit.2.2.1, i0, hfit.2.2.2.2⟩⟩
   unfold InsOk
   simp
   exact ⟨hX, rb'⟩
  ·rw [m1]
   refine ⟨?_, ⟨by unfold I64; dsimp only; omega, iX, i0, i0, by unfold I64 wordsI; dsimp only; omega⟩⟩
   unfold InsOk
   simp
   exact ⟨hX, by unfold wordsI; omega⟩
  ·rw [m2]
   refine ⟨?_, ⟨hfit.1, hfit.2.1, iX, hfit.2.2.2.1, i0⟩⟩
   unfold InsOk
   rcases m with m | m <;> simp [m] <;> exact ⟨ra', hX, rc⟩
 ·rw [sizeK_one m] at ho
  obtain rfl : o = 0 := by omega
  rw [Nat.add_zero]
  by_cases w : (p.ins k).op = 7 ∨ (p.ins k).op = 8
  ·rw [S.go k hk w]
   have hn : Plc p.cl (p.ins k).n := by unfold InsOk at hi; rcases w with w | w <;> simp [w] at hi <;> simp [hi]
   unfold Plc at hn
   have hn2 : (p.ins k).n.toNat < p.cl := by omega
   have hlt := S.lt (o := 0) hn2 (sizeK_pos p _).1
   rw [Nat.add_zero] at hlt
   have hcl := S.cl
   have hP : Plc h.cl (st (p.ins k).n.toNat : Int) := by unfold Plc; omega
   refine ⟨?_, ⟨hfit.1, hfit.2.1, hfit.2.2.1, hfit.2.2.2.1, by unfold I64; dsimp only; omega⟩⟩
   unfold InsOk Reg at hi
   unfold InsOk Reg
   rcases w with w | w <;> simp [w] at hi <;> simp [w, hP]
   ·exact ⟨hi.1, hi.2.1, hi.2.2.1⟩
   ·omega
  ·rw [S.copy k hk m w]
   exact ⟨insOk_up hi (fun c hc => (S.reg c hc).1) w, hfit⟩

theorem hd_like (S : Hdn p h st X) (ok : p.Ok 200 8) (hf : p.Fit) : Like8 p h := by
 have small := S.most p.cl (Nat.le_refl _)
 have c200 := ok.2.2.1
 have c1 := ok.2.1
 have hcl := S.cl
 refine ⟨⟨⟨by rw [← S.rl]; exact ok.1.1, fun i hi => ?_⟩, by omega, by omega, fun q hq => (hd_ins S ok hf q hq).1⟩, ⟨by rw [← S.rl]; exact hf.rl, ?_, fun i hi => ?_, fun q hq => (hd_ins S ok hf q hq).2⟩, S.rl, S.reg⟩
 ·rw [← (S.reg i (by rw [S.rl]; exact hi)).1]; exact ok.1.2 i (by rw [S.rl]; exact hi)
 ·have : 600 ≤ maxLen := by decide
  omega
 ·rw [← (S.reg i (by rw [S.rl]; exact hi)).1]; exact hf.log i (by rw [S.rl]; exact hi)

end
/-- What stands for an instruction. -/
def maskL (p : Prg) (i : Ins) : List Ins :=
 if i.op = 3 ∨ i.op = 4 then [⟨10, 8, i.b, 0, i.n⟩, ⟨11, 8, 0, 0, wordsI (p.log i.c.toNat)⟩, ⟨i.op, i.a, 8, i.c, 0⟩] else [i]
section
variable (M : Ins → List Ins) (g : Nat → Ins)
/-- What stands for the first instructions. -/
def codeG : Nat → List Ins
 | 0 => []
 | n + 1 => codeG n ++ M (g n)
def startG (n : Nat) : Nat := (codeG M g n).length
/-- What leads elsewhere leads to where that begins now. -/
def leadG (i : Ins) : Ins := if i.op = 7 ∨ i.op = 8 then ⟨i.op, i.a, i.b, i.c, (startG M g i.n.toNat : Int)⟩ else i
def hardG (cl q : Nat) : Ins := leadG M g ((codeG M g cl).getD q ⟨0, 0, 0, 0, 0⟩)
theorem startG_next (n : Nat) : startG M g (n + 1) = startG M g n + (M (g n)).length := by
 unfold startG; rw [codeG, List.length_append]
/-- Where an instruction's part is found. -/
theorem codeG_at : ∀ (n k o : Nat), k < n → o < (M (g k)).length → (codeG M g n)[startG M g k + o]? = (M (g k))[o]?
 | 0, k, o, h, _ => absurd h (Nat.not_lt_zero _)
 | n + 1, k, o, h, ho => by
  rw [codeG]
  by_cases e : k = n
  ·subst e
   rw [List.getElem?_append_right (by unfold startG; omega)]
   congr 1
   unfold startG; omega
  ·have h2 := codeG_at n k o (by omega) ho
   have hlt : startG M g k + o < (codeG M g n).length := by
    have e1 : (M (g k))[o]? ≠ none := by
     rw [Ne, List.getElem?_eq_none_iff]; omega
    rw [← h2] at e1
    rw [Ne, List.getElem?_eq_none_iff] at e1
    omega
   rw [List.getElem?_append_left hlt]
   exact h2
theorem hardG_at {cl k o : Nat} {i : Ins} (hk : k < cl) (e : (M (g k))[o]? = some i) : hardG M g cl (startG M g k + o) = leadG M g i := by
 unfold hardG
 rw [List.getD_eq_getElem?_getD, codeG_at M g cl k o hk (List.getElem?_eq_some_iff.1 e).1, e]
 rfl
theorem leadG_else {i : Ins} (h : ¬ (i.op = 7 ∨ i.op = 8)) : leadG M g i = i := by unfold leadG; rw [if_neg h]
end
abbrev codeL (p : Prg) : Nat → List Ins := codeG (maskL p) p.ins
abbrev startL (p : Prg) : Nat → Nat := startG (maskL p) p.ins
abbrev hardL (p : Prg) : Nat → Ins := hardG (maskL p) p.ins p.cl
def hardP (p : Prg) : Prg := ⟨p.rl, p.log, p.sec, startL p p.cl, hardL p⟩

theorem maskL_length (p : Prg) (n : Nat) : (maskL p (p.ins n)).length = sizeK p n := by
 unfold maskL sizeK
 split <;> rfl
theorem startL_next (p : Prg) (n : Nat) : startL p (n + 1) = startL p n + sizeK p n := (startG_next _ _ n).trans (by rw [maskL_length])
theorem startL_most (p : Prg) : ∀ n, startL p n ≤ 3 * n
 | 0 => Nat.le_refl _
 | n + 1 => by
  have := startL_most p n
  have := (sizeK_pos p n).2
  rw [startL_next]; omega
theorem hardL_at (p : Prg) (k o : Nat) (i : Ins) (hk : k < p.cl) (e : (maskL p (p.ins k))[o]? = some i) : hardL p (startL p k + o) = leadG (maskL p) p.ins i := hardG_at _ _ hk e

theorem hardP_hdn (p : Prg) : Hdn p (hardP p) (startL p) 8 := by
 refine ⟨.inl rfl, rfl, fun i hi => ⟨rfl, rfl⟩, rfl, fun k hk => startL_next p k, rfl, fun k hk hm => ?_, fun k hk hg => ?_, fun k hk hm hg => ?_⟩
 ·have hs := sizeK_mem hm
  have e : maskL p (p.ins k) = [⟨10, 8, (p.ins k).b, 0, (p.ins k).n⟩, ⟨11, 8, 0, 0, wordsI (p.log (p.ins k).c.toNat)⟩, ⟨(p.ins k).op, (p.ins k).a, 8, (p.ins k).c, 0⟩] := by unfold maskL; rw [if_pos hm]
  refine ⟨?_, ?_, ?_⟩
  ·have := hardL_at p k 0 _ hk (by rw [e]; rfl)
   rw [leadG_else _ _ (by dsimp only; omega)] at this
   exact this
  ·have := hardL_at p k 1 _ hk (by rw [e]; rfl)
   rw [leadG_else _ _ (by dsimp only; omega)] at this
   exact this
  ·have := hardL_at p k 2 _ hk (by rw [e]; rfl)
   rw [leadG_else _ _ (by dsimp only; omega)] at this
   exact this
 ·have hs : sizeK p k = 1 := sizeK_one (by omega)
  have e : maskL p (p.ins k) = [p.ins k] := by unfold maskL; rw [if_neg (by omega)]
  have := hardL_at p k 0 _ hk (by rw [e]; rfl)
  unfold leadG at this
  rw [if_pos hg] at this
  exact this
 ·have hs : sizeK p k = 1 := sizeK_one hm
  have e : maskL p (p.ins k) = [p.ins k] := by unfold maskL; rw [if_neg hm]
  have := hardL_at p k 0 _ hk (by rw [e]; rfl)
  rw [leadG_else _ _ hg] at this
  exact this

def flatI : List Ins → List Value
 | [] => []
 | i :: l => .int .i64 i.op :: .int .i64 i.a :: .int .i64 i.b :: .int .i64 i.c :: .int .i64 i.n :: flatI l
theorem flatI_length : ∀ l : List Ins, (flatI l).length = l.length * 5
 | [] => rfl
 | s :: l => by simp [flatI, flatI_length l]; omega
theorem flatI_append : ∀ l l' : List Ins, flatI (l ++ l') = flatI l ++ flatI l'
 | [], _ => rfl
 | s :: l, l' => by simp [flatI, flatI_append l l']
theorem flatI_at : ∀ (l : List Ins) (i : Nat) (s : Ins), l[i]? = some s → (flatI l)[i * 5]? = some (.int .i64 s.op) ∧ (flatI l)[i * 5 + 1]? = some (.int .i64 s.a) ∧ (flatI l)[i * 5 + 2]? = some (.int .i64 s.b) ∧ (flatI l)[i * 5 + 3]? = some (.int .i64 s.c) ∧ (flatI l)[i * 5 + 4]? = some (.int .i64 s.n)
 | [], i, s, h => by simp at h
 | x :: l, 0, s, h => by simp at h; subst h; simp [flatI]
 | x :: l, i + 1, s, h => by
  have := flatI_at l i s (by simpa using h)
  rw [show (i + 1) * 5 = i * 5 + 1 + 1 + 1 + 1 + 1 by omega, flatI]
  simpa using this
theorem flatI_one : ∀ (l : List Ins), ∀ u ∈ flatI l, u.oneCell' = true
 | [], u, h => by simp [flatI] at h
 | i :: l, u, h => by
  simp only [flatI, List.mem_cons] at h
  rcases h with rfl | rfl | rfl | rfl | rfl | h
  ·rfl
  ·rfl
  ·rfl
  ·rfl
  ·rfl
  ·exact flatI_one l u h
end
section
open Go.RowKit
set_option linter.unusedVariables false
/-- The number of an instruction's word. -/
def encW (i : Ins) : Int := (((i.op * 16 + i.a) * 16 + i.b) * 16 + i.c) * 16384 + (if i.n < 0 then i.n + 16384 else i.n)
/-- The instruction of a word. -/
def decW (u : Int) : Ins := ⟨u / 16384 / 16 / 16 / 16, u / 16384 / 16 / 16 % 16, u / 16384 / 16 % 16, u / 16384 % 16, if 8192 ≤ u % 16384 then u % 16384 - 16384 else u % 16384⟩
/-- A number that fits a word. -/
abbrev N14 (n : Int) : Prop := -8192 ≤ n ∧ n ≤ 8191
/-- A word. -/
def W32 (u : Int) : Prop := 0 ≤ u ∧ u < 4294967296
/-- Fields that fit a word, but for N. -/
structure Small (i : Ins) : Prop where
 op : 0 ≤ i.op ∧ i.op < 64
 a : 0 ≤ i.a ∧ i.a < 16
 b : 0 ≤ i.b ∧ i.b < 16
 c : 0 ≤ i.c ∧ i.c < 16

theorem small_of {rl : Nat} {log : Nat → Int} {cl : Nat} {i : Ins} (hrl : rl ≤ 6) (h : InsOk rl log cl 10 i) : Small i := by
 unfold InsOk Reg Rgn Plc Wrd at h
 by_cases h1 : i.op = 1
 ·rw [if_pos h1] at h; exact ⟨by omega, by omega, by omega, by omega⟩
 rw [if_neg h1] at h
 by_cases h2 : i.op = 2
 ·rw [if_pos h2] at h; exact ⟨by omega, by omega, by omega, by omega⟩
 rw [if_neg h2] at h
 by_cases h3 : i.op = 3
 ·rw [if_pos h3] at h; exact ⟨by omega, by omega, by omega, by omega⟩
 rw [if_neg h3] at h
 by_cases h4 : i.op = 4
 ·rw [if_pos h4] at h; exact ⟨by omega, by omega, by omega, by omega⟩
 rw [if_neg h4] at h
 by_cases h5 : i.op = 5
 ·rw [if_pos h5] at h; exact ⟨by omega, by omega, by omega, by omega⟩
 rw [if_neg h5] at h
 by_cases h6 : i.op = 6
 ·rw [if_pos h6] at h; exact ⟨by omega, by omega, by omega, by omega⟩
 rw [if_neg h6] at h
 by_cases h7 : i.op = 7
 ·rw [if_pos h7] at h; exact ⟨by omega, by omega, by omega, by omega⟩
 rw [if_neg h7] at h
 by_cases h8 : i.op = 8
 ·rw [if_pos h8] at h; exact ⟨by omega, by omega, by omega, by omega⟩
 rw [if_neg h8] at h
 by_cases h9 : i.op = 9
 ·rw [if_pos h9] at h; exact ⟨by omega, by omega, by omega, by omega⟩
 rw [if_neg h9] at h
 by_cases h10 : i.op = 10
 ·rw [if_pos h10] at h; exact ⟨by omega, by omega, by omega, by omega⟩
 rw [if_neg h10] at h
 by_cases h11 : i.op = 11
 ·rw [if_pos h11] at h; exact ⟨by omega, by omega, by omega, by omega⟩
 rw [if_neg h11] at h
 by_cases h12 : i.op = 12
 ·rw [if_pos h12] at h; exact ⟨by omega, by omega, by omega, by omega⟩
 rw [if_neg h12] at h
 exact ⟨by omega, by omega, by omega, by omega⟩

theorem enc_w32 {i : Ins} (s : Small i) (n : N14 i.n) : W32 (encW i) := by
 obtain ⟨h1, h2, h3, h4⟩ := s
 unfold N14 at n
 unfold W32 encW
 split <;> omega
theorem dec_enc {i : Ins} (s : Small i) (n : N14 i.n) : decW (encW i) = i := by
 obtain ⟨op, a, b, c, m⟩ := i
 obtain ⟨h1, h2, h3, h4⟩ := s
 unfold N14 at n
 dsimp only at h1 h2 h3 h4 n
 have e : ∃ r, 0 ≤ r ∧ r < 16384 ∧ (if m < 0 then m + 16384 else m) = r ∧ (if 8192 ≤ r then r - 16384 else r) = m := by
  by_cases hm : m < 0
  ·exact ⟨m + 16384, by omega, by omega, by rw [if_pos hm], by rw [if_pos (by omega)]; omega⟩
  ·exact ⟨m, by omega, by omega, by rw [if_neg hm], by rw [if_neg (by omega)]⟩
 obtain ⟨r, r0, r1, e1, e2⟩ := e
 unfold decW encW
 dsimp only
 rw [e1]
 have q1 : ((((op * 16 + a) * 16 + b) * 16 + c) * 16384 + r) / 16384 = ((op * 16 + a) * 16 + b) * 16 + c := by omega
 have q2 : ((((op * 16 + a) * 16 + b) * 16 + c) * 16384 + r) % 16384 = r := by omega
 have q3 : (((op * 16 + a) * 16 + b) * 16 + c) / 16 = (op * 16 + a) * 16 + b := by omega
 have q4 : (((op * 16 + a) * 16 + b) * 16 + c) % 16 = c := by omega
 have q5 : ((op * 16 + a) * 16 + b) / 16 = op * 16 + a := by omega
 have q6 : ((op * 16 + a) * 16 + b) % 16 = b := by omega
 have q7 : (op * 16 + a) / 16 = op := by omega
 have q8 : (op * 16 + a) % 16 = a := by omega
 rw [q2, e2, q1, q4, q3, q6, q5, q8, q7]
/-- What Put tells: what is wrong, or nothing. -/
def PutR (p : Prg) (f : Int × Int) : Prop :=
 (¬ p.Ok 8000 10 ∧ f = (2, 0)) ∨ (p.Ok 8000 10 ∧ ∃ k : Nat, k < p.cl ∧ (∀ j, j < k → N14 (p.ins j).n) ∧ ¬ N14 (p.ins k).n ∧ f = (3, (k : Int))) ∨ (p.Ok 8000 10 ∧ (∀ j, j < p.cl → N14 (p.ins j).n) ∧ f = (0, 0))
theorem PutR.one {p : Prg} {f g : Int × Int} (h : PutR p f) (k : PutR p g) : f = g := by
 rcases h with ⟨h1, rfl⟩ | ⟨h1, a, h2, h3, h4, rfl⟩ | ⟨h1, h2, rfl⟩
 ·rcases k with ⟨_, rfl⟩ | ⟨k1, _⟩ | ⟨k1, _⟩
  ·rfl
  ·exact absurd k1 h1
  ·exact absurd k1 h1
 ·rcases k with ⟨k1, _⟩ | ⟨_, b, k2, k3, k4, rfl⟩ | ⟨_, k2, _⟩
  ·exact absurd h1 k1
  ·rcases Nat.lt_trichotomy a b with q | q | q
   ·exact absurd (k3 a q) h4
   ·rw [q]
   ·exact absurd (h3 b q) k4
  ·exact absurd (k2 a h2) h4
 ·rcases k with ⟨k1, _⟩ | ⟨_, b, k2, k3, k4, rfl⟩ | ⟨_, k2, rfl⟩
  ·exact absurd h1 k1
  ·exact absurd (h2 b k2) k4
  ·rfl
/-- Words that lie somewhere. -/
def WordsAt (w : World) (b o n : Nat) (f : Nat → Int) : Prop := ∀ i, i < n → w.cell? ⟨b, o + i, none⟩ = some (.int .u32 (f i))
theorem WordsAt.more {w w' : World} (m : More w w') {b o n : Nat} {f : Nat → Int} (h : WordsAt w b o n f) : WordsAt w' b o n f := fun i hi => m.cell (h i hi)
end
section
open Go.RowKit
set_option linter.unusedSimpArgs false
set_option linter.unusedVariables false
/-- What makes a register a number, its highest piece first. -/
def pieceL (a : Int) : Nat → Int → List Ins
 | 0, n => [⟨1, a, 0, 0, n⟩]
 | f + 1, n => if N14 n then [⟨1, a, 0, 0, n⟩] else pieceL a f (n / 8192) ++ [⟨27, a, a, 9, 0⟩, ⟨10, a, a, 0, n % 8192⟩]
def numL (a n : Int) : List Ins := ⟨1, 9, 0, 0, 13⟩ :: pieceL a 4 n
/-- What is laid for an instruction. -/
def fitL (i : Ins) : List Ins := if N14 i.n then [i] else if i.op = 1 then numL i.a i.n else if i.op = 10 then numL 8 i.n ++ [⟨21, i.a, i.b, 8, 0⟩] else [i]
def fitP (q : Prg) : Prg := ⟨q.rl, q.log, q.sec, startG fitL q.ins q.cl, hardG fitL q.ins q.cl⟩

theorem fitL_else {i : Ins} (h1 : ¬ i.op = 1) (h2 : ¬ i.op = 10) : fitL i = [i] := by unfold fitL; simp [h1, h2]

theorem piece_all {P : Ins → Prop} {a : Int} (h1 : ∀ n, P ⟨1, a, 0, 0, n⟩) (h2 : P ⟨27, a, a, 9, 0⟩) (h3 : ∀ n, P ⟨10, a, a, 0, n⟩) : ∀ (f : Nat) (n : Int), ∀ i ∈ pieceL a f n, P i
 | 0, n, i, hi => by simp [pieceL] at hi; subst hi; exact h1 n
 | f + 1, n, i, hi => by
  unfold pieceL at hi
  split at hi
  ·simp at hi; subst hi; exact h1 n
  ·simp at hi
   rcases hi with hi | rfl | rfl
   ·exact piece_all h1 h2 h3 f _ i hi
   ·exact h2
   ·exact h3 _
def lim : Nat → Int
 | 0 => 8192
 | f + 1 => lim f * 8192
theorem piece_fits (a : Int) : ∀ (f : Nat) (n : Int), -lim f ≤ n → n < lim f → ∀ i ∈ pieceL a f n, N14 i.n
 | 0, n, h1, h2, i, hi => by simp only [lim] at h1 h2; simp [pieceL] at hi; subst hi; unfold N14; dsimp only; omega
 | f + 1, n, h1, h2, i, hi => by
  unfold pieceL at hi
  split at hi
  ·simp at hi; subst hi; assumption
  ·simp only [lim] at h1 h2
   simp at hi
   rcases hi with hi | rfl | rfl
   ·exact piece_fits a f _ (by omega) (by omega) i hi
   ·unfold N14; dsimp only; omega
   ·unfold N14; dsimp only; omega
theorem lim4 {n : Int} (h : B64 n) : -lim 4 ≤ n ∧ n < lim 4 := by
 unfold B64 at h
 simp only [lim]
 omega
theorem piece_len (a : Int) : ∀ (f : Nat) (n : Int), 1 ≤ (pieceL a f n).length ∧ (pieceL a f n).length ≤ 1 + 2 * f
 | 0, n => by simp [pieceL]
 | f + 1, n => by
  unfold pieceL
  split
  ·simp
  ·have := piece_len a f (n / 8192)
   simp; omega
theorem setR_twice (r : Nat → Int) (a x y : Int) : setR (setR r a x) a y = setR r a y := by
 funext j; unfold setR; split <;> rfl
theorem setR_at (r : Nat → Int) (a x : Int) : setR r a x a.toNat = x := by unfold setR; rw [if_pos rfl]
theorem setR_ne (r : Nat → Int) (a x : Int) {j : Nat} (h : ¬ j = a.toNat) : setR r a x j = r j := by unfold setR; rw [if_neg h]
theorem shl13 {n : Int} (h : B64 n) : wrap64 (opI 7 (n / 8192) 13 + n % 8192) = n := by
 unfold B64 at h
 unfold opI toU wrap64
 simp
 omega
theorem piece_seq {a : Int} (ha : ¬ 9 = a.toNat) : ∀ (f : Nat) (n : Int), B64 n → ∀ r : Nat → Int, r 9 = 13 → seqR (pieceL a f n) r = setR r a n
 | 0, n, h, r, h9 => by simp [pieceL, seqR, regsI]
 | f + 1, n, h, r, h9 => by
  unfold pieceL
  split
  ·simp [seqR, regsI]
  ·rw [seqR_append, piece_seq ha f _ (by unfold B64 at *; omega) r h9]
   simp [seqR, regsI, setR_twice, setR_at]
   rw [setR_ne _ _ _ ha, h9, shl13 h]
theorem piece_labs {a : Int} (ha : ¬ 9 = a.toNat) : ∀ (f : Nat) (n : Int) (L : Nat → Bool), L 9 = false → ∀ j, labs (pieceL a f n) L j = if j = a.toNat then false else L j
 | 0, n, L, h9, j => by simp [pieceL, labs, transL]
 | f + 1, n, L, h9, j => by
  unfold pieceL
  split
  ·simp [labs, transL]
  ·rw [labs_append]
   have h := piece_labs ha f (n / 8192) L h9
   simp [labs, transL, h, h9]

theorem num_seq {a : Int} (ha : ¬ 9 = a.toNat) {n : Int} (h : B64 n) (r : Nat → Int) : seqR (numL a n) r = setR (setR r 9 13) a n := by
 unfold numL
 simp only [seqR]
 rw [piece_seq ha 4 n h]
 ·simp [regsI]
 ·simp [regsI, setR]
theorem num_labs {a : Int} (ha : ¬ 9 = a.toNat) (n : Int) (L : Nat → Bool) (j : Nat) : labs (numL a n) L j = if j = a.toNat then false else if j = 9 then false else L j := by
 unfold numL
 simp only [labs]
 rw [piece_labs ha 4 n _ (by simp [transL])]
 simp [transL]
theorem num_str {a : Int} (ha : a.toNat < 10) (n : Int) : ∀ i ∈ numL a n, StrI i := by
 intro i hi
 unfold numL at hi
 rcases List.mem_cons.1 hi with rfl | hi
 ·unfold StrI; simp
 ·exact piece_all (P := StrI) (fun n => ⟨by simp, ha, by simp, by simp⟩) ⟨by simp, ha, ha, by simp⟩ (fun n => ⟨by simp, ha, ha, by simp⟩) 4 n i hi
theorem num_len (a n : Int) : 1 ≤ (numL a n).length ∧ (numL a n).length ≤ 10 := by
 have := piece_len a 4 n
 unfold numL; simp; omega
theorem fitL_len (i : Ins) : 1 ≤ (fitL i).length ∧ (fitL i).length ≤ 11 := by
 unfold fitL
 split
 ·simp
 split
 ·have := num_len i.a i.n; omega
 split
 ·have := num_len 8 i.n; simp; omega
 ·simp

theorem set_seq {i : Ins} (h1 : i.op = 1) (ha : i.a.toNat < 8) (hn : B64 i.n) (r : Nat → Int) {j : Nat} (hj : j < 8) : seqR (fitL i) r j = setR r i.a i.n j := by
 unfold fitL
 split
 ·simp [seqR, regsI, h1]
 ·rw [num_seq (by omega) hn]
  unfold setR
  simp
  split
  ·rfl
  ·rw [if_neg (by omega)]
theorem set_labs {i : Ins} (h1 : i.op = 1) (ha : i.a.toNat < 8) (L : Nat → Bool) (h9 : L 9 = false) (j : Nat) : labs (fitL i) L j = if j = i.a.toNat then false else L j := by
 unfold fitL
 split
 ·simp [labs, transL, h1]
 ·rw [num_labs (by omega)]
  split
  ·rfl
  ·split
   ·rename_i e; rw [e, h9]
   ·rfl
theorem add_seq {i : Ins} (h1 : i.op = 10) (hb : i.b.toNat < 8) (hn : B64 i.n) (r : Nat → Int) {j : Nat} (hj : j < 8 ∨ j = i.a.toNat) : seqR (fitL i) r j = setR r i.a (wrap64 (r i.b.toNat + i.n)) j := by
 unfold fitL
 split
 ·simp [seqR, regsI, h1]
 ·rw [if_neg (by omega), seqR_append, num_seq (by decide) hn]
  simp [seqR, regsI]
  by_cases e : j = i.a.toNat
  ·rw [e, setR_at, setR_at]
   unfold opI
   simp [setR]
   rw [if_neg (by omega), if_neg (by omega)]
  ·rw [setR_ne _ _ _ e, setR_ne _ _ _ e]
   unfold setR
   simp
   rw [if_neg (by omega), if_neg (by omega)]
theorem add_labs {i : Ins} (h1 : i.op = 10) (hb : i.b.toNat < 8) (L : Nat → Bool) (hL : ∀ j, 8 ≤ j → L j = false) (j : Nat) : labs (fitL i) L j = if j = i.a.toNat then L i.b.toNat else L j := by
 have h8 := hL 8 (by omega)
 have h9 := hL 9 (by omega)
 unfold fitL
 split
 ·simp [labs, transL, h1]
 ·rw [if_neg (by omega), labs_append]
  simp only [labs, transL]
  have e := num_labs (a := 8) (by decide) i.n L
  simp [e]
  split
  ·simp [show ¬ i.b.toNat = 8 by omega, show ¬ i.b.toNat = 9 by omega]
  ·by_cases q8 : j = 8
   ·simp [q8, h8]
   ·by_cases q9 : j = 9
    ·simp [q9, h9]
    ·simp [q8, q9]
theorem fitL_str {i : Ins} (h : StrI i) : ∀ x ∈ fitL i, StrI x := by
 intro x hx
 unfold fitL at hx
 split at hx
 ·simp at hx; subst hx; exact h
 split at hx
 ·exact num_str h.2.1 _ x hx
 split at hx
 ·rcases List.mem_append.1 hx with hx | hx
  ·exact num_str (by decide) _ x hx
  ·simp at hx; subst hx
   exact ⟨by simp, h.2.1, h.2.2.1, by simp⟩
 ·simp at hx; subst hx; exact h

section
variable (p : Prg)
def stF (k : Nat) : Nat := startG fitL (hardP p).ins (startL p k)
def fitB (k : Nat) : List Ins :=
 if (p.ins k).op = 3 ∨ (p.ins k).op = 4 then fitL ⟨10, 8, (p.ins k).b, 0, (p.ins k).n⟩ ++ [⟨11, 8, 0, 0, wordsI (p.log (p.ins k).c.toNat)⟩, ⟨(p.ins k).op, (p.ins k).a, 8, (p.ins k).c, 0⟩]
 else if (p.ins k).op = 7 ∨ (p.ins k).op = 8 then [⟨(p.ins k).op, (p.ins k).a, (p.ins k).b, (p.ins k).c, (stF p (p.ins k).n.toNat : Int)⟩]
 else fitL (p.ins k)
end
section
variable {p : Prg} {k : Nat}
theorem fitB_mem (h : (p.ins k).op = 3 ∨ (p.ins k).op = 4) : fitB p k = fitL ⟨10, 8, (p.ins k).b, 0, (p.ins k).n⟩ ++ [⟨11, 8, 0, 0, wordsI (p.log (p.ins k).c.toNat)⟩, ⟨(p.ins k).op, (p.ins k).a, 8, (p.ins k).c, 0⟩] := by unfold fitB; rw [if_pos h]
theorem fitB_go (h : (p.ins k).op = 7 ∨ (p.ins k).op = 8) : fitB p k = [⟨(p.ins k).op, (p.ins k).a, (p.ins k).b, (p.ins k).c, (stF p (p.ins k).n.toNat : Int)⟩] := by unfold fitB; rw [if_neg (by omega), if_pos h]
theorem fitB_else (h : ¬ ((p.ins k).op = 3 ∨ (p.ins k).op = 4)) (h2 : ¬ ((p.ins k).op = 7 ∨ (p.ins k).op = 8)) : fitB p k = fitL (p.ins k) := by unfold fitB; rw [if_neg h, if_neg h2]
theorem fitB_len : 1 ≤ (fitB p k).length ∧ (fitB p k).length ≤ 13 := by
 unfold fitB
 split
 ·have := fitL_len ⟨10, 8, (p.ins k).b, 0, (p.ins k).n⟩; simp; omega
 split
 ·simp
 ·have := fitL_len (p.ins k); omega

theorem stF_next (hk : k < p.cl) : stF p (k + 1) = stF p k + (fitB p k).length := by
 have S := hardP_hdn p
 unfold stF
 rw [startL_next]
 by_cases m : (p.ins k).op = 3 ∨ (p.ins k).op = 4
 ·obtain ⟨m0, m1, m2⟩ := S.mem k hk m
  rw [sizeK_mem m, startG_next, startG_next, startG_next, m0, m1, m2, fitB_mem m, fitL_else (i := ⟨11, _, _, _, _⟩) (by simp) (by simp), fitL_else (i := ⟨(p.ins k).op, _, _, _, _⟩) (by dsimp only; omega) (by dsimp only; omega)]
  simp
  omega
 ·rw [sizeK_one m, startG_next]
  by_cases w : (p.ins k).op = 7 ∨ (p.ins k).op = 8
  ·rw [S.go k hk w, fitB_go w, fitL_else (by dsimp only; omega) (by dsimp only; omega)]; rfl
  ·rw [S.copy k hk m w, fitB_else m w]
theorem fit_at {q : Prg} {m o : Nat} {i : Ins} (hm : m < q.cl) (e : (fitL (q.ins m))[o]? = some i) (h7 : ¬ (i.op = 7 ∨ i.op = 8)) : (fitP q).ins (startG fitL q.ins m + o) = i := by
 show hardG fitL q.ins q.cl (startG fitL q.ins m + o) = i
 rw [hardG_at _ _ hm e, leadG_else _ _ h7]
theorem str78 {i : Ins} (h : StrI i) : ¬ (i.op = 7 ∨ i.op = 8) := by
 have := h.1
 omega

/-- What the instructions of it are. -/
theorem fit_ins (ok : p.Ok 200 8) (hk : k < p.cl) (o : Nat) (i : Ins) (e : (fitB p k)[o]? = some i) : (fitP (hardP p)).ins (stF p k + o) = i := by
 have S := hardP_hdn p
 have hlt : ∀ o, o < sizeK p k → startL p k + o < (hardP p).cl := fun o ho => S.lt hk ho
 have hi := ok.2.2.2 k hk
 by_cases m : (p.ins k).op = 3 ∨ (p.ins k).op = 4
 ·obtain ⟨m0, m1, m2⟩ := S.mem k hk m
  have hs := sizeK_mem m
  have hr : Reg 8 (p.ins k).b := by unfold InsOk at hi; rcases m with m | m <;> simp [m] at hi <;> exact hi.2.1
  unfold Reg at hr
  rw [fitB_mem m] at e
  have l0 : (fitL ((hardP p).ins (startL p k))) = fitL ⟨10, 8, (p.ins k).b, 0, (p.ins k).n⟩ := by rw [m0]
  have n0 := startG_next fitL (hardP p).ins (startL p k)
  rw [l0] at n0
  have l1 : fitL ((hardP p).ins (startL p k + 1)) = [⟨11, 8, 0, 0, wordsI (p.log (p.ins k).c.toNat)⟩] := by rw [m1]; exact fitL_else (by simp) (by simp)
  have n1 := startG_next fitL (hardP p).ins (startL p k + 1)
  rw [l1] at n1
  have l2 : fitL ((hardP p).ins (startL p k + 2)) = [⟨(p.ins k).op, (p.ins k).a, 8, (p.ins k).c, 0⟩] := by rw [m2]; exact fitL_else (by dsimp only; omega) (by dsimp only; omega)
  unfold stF
  by_cases c : o < (fitL ⟨10, 8, (p.ins k).b, 0, (p.ins k).n⟩).length
  ·rw [List.getElem?_append_left c] at e
   refine fit_at (hlt 0 (by omega)) (by rw [l0]; exact e) (str78 (fitL_str ?_ i (List.mem_of_getElem? e)))
   exact ⟨by simp, by simp, by dsimp only; omega, by simp⟩
  ·rw [List.getElem?_append_right (by omega)] at e
   generalize hd : o - (fitL ⟨10, 8, (p.ins k).b, 0, (p.ins k).n⟩).length = d at e
   match d, e with
   | 0, e =>
    obtain rfl := Option.some.inj e
    have := fit_at (o := 0) (hlt 1 (by omega)) (by rw [l1]; rfl) (by simp)
    rw [n0] at this
    rw [show startG fitL (hardP p).ins (startL p k) + o = startG fitL (hardP p).ins (startL p k) + (fitL ⟨10, 8, (p.ins k).b, 0, (p.ins k).n⟩).length + 0 by omega]
    exact this
   | 1, e =>
    obtain rfl := Option.some.inj e
    have := fit_at (o := 0) (hlt 2 (by omega)) (by rw [l2]; rfl) (by dsimp only; omega)
    rw [show startL p k + 2 = startL p k + 1 + 1 by omega, n1, n0] at this
    rw [show startG fitL (hardP p).ins (startL p k) + o = startG fitL (hardP p).ins (startL p k) + (fitL ⟨10, 8, (p.ins k).b, 0, (p.ins k).n⟩).length + 1 + 0 by omega]
    exact this
   | d + 2, e => simp at e
 ·have hs := sizeK_one m
  by_cases w : (p.ins k).op = 7 ∨ (p.ins k).op = 8
  ·rw [fitB_go w] at e
   have h1 := S.go k hk w
   have l0 : fitL ((hardP p).ins (startL p k)) = [⟨(p.ins k).op, (p.ins k).a, (p.ins k).b, (p.ins k).c, (startL p (p.ins k).n.toNat : Int)⟩] := by rw [h1]; exact fitL_else (by dsimp only; omega) (by dsimp only; omega)
   match o, e with
   | 0, e =>
    obtain rfl := Option.some.inj e
    have := hardG_at fitL (hardP p).ins (o := 0) (hlt 0 (by omega)) (by rw [Nat.add_zero, l0]; rfl)
    refine this.trans ?_
    unfold leadG stF
    rw [if_pos w]
    simp
   | o + 1, e => simp at e
  ·rw [fitB_else m w] at e
   have h1 := S.copy k hk m w
   refine fit_at (hlt 0 (by omega)) (by rw [h1]; exact e) ?_
   unfold fitL at e
   split at e
   ·simp [List.getElem?_singleton] at e; rw [← e.2]; exact w
   split at e
   ·refine str78 (num_str ?_ _ i (List.mem_of_getElem? e))
    rename_i q; unfold InsOk Reg at hi; rw [if_pos q] at hi; omega
   split at e
   ·refine str78 ?_
    rcases List.mem_append.1 (List.mem_of_getElem? e) with hx | hx
    ·exact num_str (by decide) _ i hx
    ·simp at hx; subst hx
     rename_i q; unfold InsOk Reg at hi; simp [q] at hi
     exact ⟨by simp, by dsimp only; omega, by dsimp only; omega, by simp⟩
   ·simp [List.getElem?_singleton] at e; rw [← e.2]; exact w

theorem fit_blo (ok : p.Ok 200 8) (hf : p.Fit) : Blo p (fitP (hardP p)) (stF p) (fitB p) 8 := by
 refine ⟨.inl rfl, rfl, fun i hi => ⟨rfl, rfl⟩, rfl, fun k hk => stF_next hk, rfl, fun k hk => fitB_len.1, fun k hk => fit_ins ok hk, fun k hk h => fitB_go h, fun k hk h => ?_, fun k hk m => ?_, fun k hk h1 h2 h3 => ?_⟩
 ·rw [fitB_else (by omega) (by omega), fitL_else (by omega) (by omega)]
 ·have hi := ok.2.2.2 k hk
  have hn : B64 (p.ins k).n := (hf.ins k hk).2.2.2.2
  have hr : Reg 8 (p.ins k).b ∧ Rgn p.rl (p.ins k).c := by unfold InsOk at hi; rcases m with m | m <;> simp [m] at hi <;> exact hi.2
  obtain ⟨hb, hc⟩ := hr
  unfold Reg at hb
  unfold Rgn at hc
  have hl := ok.1.2 (p.ins k).c.toNat (by omega)
  have hw : 1 ≤ wordsI (p.log (p.ins k).c.toNat) := (two_pow_le (by omega)).1
  have sq : ∀ r j, j < 8 ∨ j = 8 → seqR (fitL ⟨10, 8, (p.ins k).b, 0, (p.ins k).n⟩) r j = setR r 8 (wrap64 (r (p.ins k).b.toNat + (p.ins k).n)) j := fun r j hj => add_seq (i := ⟨10, 8, (p.ins k).b, 0, (p.ins k).n⟩) rfl (by dsimp only; omega) hn r hj
  have s8 : ∀ r, seqR (fitL ⟨10, 8, (p.ins k).b, 0, (p.ins k).n⟩) r 8 = wrap64 (r (p.ins k).b.toNat + (p.ins k).n) := fun r => by rw [sq r 8 (.inr rfl)]; rfl
  generalize hW : wordsI (p.log (p.ins k).c.toNat) = W at hw
  have ix : ∀ r, idxI r (p.ins k) = wrap64 (r (p.ins k).b.toNat + (p.ins k).n) := fun r => by unfold idxI; rw [if_neg (by omega)]
  have m8 : ∀ r, seqR [⟨11, 8, 0, 0, W⟩] r 8 = if r 8 < 0 ∨ W ≤ r 8 then 0 else r 8 := fun r => by
   simp [seqR, regsI]
   split
   ·simp [setR]
   ·rfl
  have mj : ∀ r j, j < 8 → seqR [⟨11, 8, 0, 0, W⟩] r j = r j := fun r j hj => by
   simp [seqR, regsI]
   split
   ·unfold setR; simp; omega
   ·rfl
  refine ⟨fitL ⟨10, 8, (p.ins k).b, 0, (p.ins k).n⟩ ++ [⟨11, 8, 0, 0, W⟩], ?_, fun i hi => ?_, fun r j hj => ?_, fun r => ?_, fun r _ h0 h1 => ?_, fun L hL hb0 j hj => ?_⟩
  ·rw [fitB_mem m, hW]; simp
  ·rcases List.mem_append.1 hi with h | h
   ·exact fitL_str ⟨by simp, by simp, by dsimp only; omega, by simp⟩ i h
   ·simp at h; subst h; exact ⟨by simp, by simp, by simp, by simp⟩
  ·rw [seqR_append, mj _ _ hj, sq r j (.inl hj)]
   unfold setR; simp; omega
  ·rw [seqR_append]
   show 0 ≤ seqR _ _ 8 ∧ seqR _ _ 8 < W
   rw [m8]
   split <;> omega
  ·rw [seqR_append]
   show seqR _ _ 8 = _
   rw [m8, s8, ← ix]
   rw [if_neg (by omega)]
  ·rw [labs_append] at hj
   have e := add_labs (i := ⟨10, 8, (p.ins k).b, 0, (p.ins k).n⟩) rfl (by dsimp only; omega) L hL
   simp only [labs, transL] at hj
   simp [e] at hj
   by_cases q : j = 8
   ·simp [q, hb0] at hj
   ·simp [q] at hj
    refine ⟨?_, hj⟩
    rcases Nat.lt_or_ge j 8 with c | c
    ·exact c
    ·rw [hL j c] at hj; cases hj
 ·have hi := ok.2.2.2 k hk
  have hn : B64 (p.ins k).n := (hf.ins k hk).2.2.2.2
  have hg := regs_of hi
  rw [fitB_else h1 h2]
  have hI := hi
  unfold InsOk Reg at hI
  have lowL : ∀ (L : Nat → Bool), (∀ j, 8 ≤ j → L j = false) → (p.ins k).a.toNat < 8 → ∀ j, transL (p.ins k) L j = true → j < 8 ∧ transL (p.ins k) L j = true := fun L hL ha j hj => by
   refine ⟨?_, hj⟩
   rcases Nat.lt_or_ge j 8 with c | c
   ·exact c
   ·unfold transL at hj
    rw [if_neg (by omega), hL j c] at hj; cases hj
  have single : StrI (p.ins k) → (p.ins k).a.toNat < 8 → fitL (p.ins k) = [p.ins k] → (∀ i ∈ fitL (p.ins k), StrI i) ∧ (∀ r, (∀ j, j < 8 → B64 (r j)) → ∀ j, j < 8 → seqR (fitL (p.ins k)) r j = (regsI r (p.ins k)).1 j) ∧ (∀ L : Nat → Bool, (∀ j, 8 ≤ j → L j = false) → ∀ j, labs (fitL (p.ins k)) L j = true → j < 8 ∧ transL (p.ins k) L j = true) := fun hs ha e => by
   rw [e]
   exact ⟨fun i h => by simp at h; subst h; exact hs, fun r _ j _ => rfl, fun L hL j hj => lowL L hL ha j hj⟩
  by_cases q1 : (p.ins k).op = 1
  ·rw [if_pos q1] at hI
   refine ⟨fitL_str ⟨.inl q1, by omega, by omega, by omega⟩, fun r _ j hj => ?_, fun L hL j hj => ?_⟩
   ·rw [set_seq q1 (by omega) hn r hj]; unfold regsI; rw [if_pos q1]
   ·rw [set_labs q1 (by omega) L (hL 9 (by omega))] at hj
    have e : transL (p.ins k) L j = if j = (p.ins k).a.toNat then false else L j := by unfold transL; rw [if_pos q1]
    exact lowL L hL (by omega) j (e.trans hj)
  ·rw [if_neg q1] at hI
   by_cases q10 : (p.ins k).op = 10
   ·simp [q10] at hI
    refine ⟨fitL_str ⟨by omega, by omega, by omega, by omega⟩, fun r _ j hj => ?_, fun L hL j hj => ?_⟩
    ·rw [add_seq q10 (by omega) hn r (.inl hj)]; unfold regsI; rw [if_neg (by omega), if_neg (by omega), if_pos q10]
    ·rw [add_labs q10 (by omega) L hL] at hj
     have e : transL (p.ins k) L j = if j = (p.ins k).a.toNat then L (p.ins k).b.toNat else L j := by unfold transL; simp [q10]
     exact lowL L hL (by omega) j (e.trans hj)
   ·have e := fitL_else q1 q10
    by_cases q2 : (p.ins k).op = 2
    ·rw [if_pos q2] at hI
     exact single ⟨.inr (.inl q2), by omega, by omega, by omega⟩ (by omega) e
    by_cases q11 : (p.ins k).op = 11
    ·simp [q11] at hI
     exact single ⟨by omega, by omega, by omega, by omega⟩ (by omega) e
    ·rw [if_neg q2, if_neg (by omega), if_neg (by omega), if_neg (by omega), if_neg (by omega), if_neg (by omega), if_neg (by omega), if_neg (by omega), if_neg q10, if_neg q11, if_neg (by omega)] at hI
     exact single ⟨by omega, by omega, by omega, by omega⟩ (by omega) e
end
theorem run_append_owned_empty {P : Program} {w : World} (base : Nat) (t ty e : TypeId) (i : TypeInfo) (size : Nat) (ht : P.underlying t = some (.slice e)) (hi : P.info? e = some i)
  (v : Value) (n : Nat) (xs : List Value) (hown : w.ownsRow base e size v n xs) (ad : Option Addr) (c : Nat) :
  (Builtin.append_ #[t, t] ty #[v, .slice ad 0 c]).run P w = .ok v w := by
 have hl : ∀ a : Addr, (loadCells a 0).run P w = .ok #[] w := fun a => rfl
 rcases hown.2 with ⟨rfl, rfl⟩ | ⟨g, cap, cur, rfl, _, _, hnc, _⟩
 ·cases ad <;> simp [Builtin.append_, run_underlying ht, sizeOf, typeInfo, hi, Builtin.lenOf, Builtin.firstCells, hl]
 ·cases ad <;> simp [Builtin.append_, run_underlying ht, sizeOf, typeInfo, hi, Builtin.lenOf, Builtin.firstCells, hnc, storeCells, hl]

/-- What is appended lies anywhere, or there is nothing of it. -/
theorem wp_append_any {P : Program} {o : Oper} {a : Act} (w : World) {K : Act → World → Prop} {Q : Exit → Act → World → Prop} (s x : Operand) (t : TypeId)
  (ho : o.op = .call { callee := .builtin .append, args := #[s, x], argTypes := #[t, t] })
  (base : Nat) (e : TypeId) (i : TypeInfo) (z : Value) (size bytes : Nat) (ht : P.underlying t = some (.slice e)) (hi : P.info? e = some i) (hz : i.zero = some z)
  (hsize : i.size = size) (hby : i.bytes = bytes) (hzs : z.cells.size = size) (hsz : 0 < size)
  (v : Value) (n : Nat) (xs : List Value) (hs : a.eval s = v) (hown : w.ownsRow base e size v n xs)
  (ad : Option Addr) (m c : Nat) (news : List Value) (hx : a.eval x = .slice ad m c) (hl : news.length = m * size) (hnews : 0 < m → ∃ ad', ad = some ad' ∧ ∀ j u, news[j]? = some u → w.cell? (ad'.add j) = some u) (h1 : ∀ u ∈ news, u.oneCell' = true)
  (h63 : n + m ≤ maxLen) (hbytes : (n + m) * bytes ≤ 140737488355328) (hbase : base ≤ w.heap.size)
  (h : ∀ va cap w', w'.ownsRow base e size (.slice va (n + m) cap) (n + m) (xs ++ news) → w.grownBy w' v.ownBlock → (∀ b, (Value.slice va (n + m) cap).ownBlock = some b → v.ownBlock = some b ∨ b = w.heap.size) → (v.ownBlock ≠ none → va ≠ none) → K (a.put o.dst (.slice va (n + m) cap)) w') : o.wp P a w K Q := by
 by_cases hm : 0 < m
 ·obtain ⟨ad', rfl, hn2⟩ := hnews hm
  refine wp_append_lies w s x t ho base e i z size bytes ht hi hz hsize hby hzs hsz v n xs hs hown ad' m c news hx hl hn2 h1 hm h63 hbytes hbase w.heap.size rfl (fun g cap w' h2 h3 h4 h5 => h _ _ _ h2 h3 (fun b hb => ?_) (fun _ => by simp))
  have : b = g := by simpa [Value.ownBlock] using hb.symm
  subst this
  exact h4
 ·obtain rfl : m = 0 := by omega
  have hnl : news = [] := List.eq_nil_of_length_eq_zero (by rw [hl]; omega)
  subst hnl
  have hrun := run_append_owned_empty (P := P) (w := w) base t o.type e i size ht hi v n xs hown ad c
  obtain ⟨va, cap, rfl⟩ := own_form hown
  unfold Oper.wp
  simp [execOp, ho, resolve, invoke, builtin, hs, hx, hrun, Result.andThen]
  exact h va cap w (by simpa using hown) (grown_refl _ _) (fun b hb => .inl hb) (fun h1 h2 => h1 (by rw [h2]; rfl))
theorem wpList_append_any {P : Program} {ops : Array Oper} {rest : List Oper} {o : Oper} {a : Act} (w : World) {Q : Exit → Act → World → Prop} (hgd : o.guard = none) (s x : Operand) (t : TypeId)
  (ho : o.op = .call { callee := .builtin .append, args := #[s, x], argTypes := #[t, t] })
  (base : Nat) (e : TypeId) (i : TypeInfo) (z : Value) (size bytes : Nat) (ht : P.underlying t = some (.slice e)) (hi : P.info? e = some i) (hz : i.zero = some z)
  (hsize : i.size = size) (hby : i.bytes = bytes) (hzs : z.cells.size = size) (hsz : 0 < size)
  (v : Value) (n : Nat) (xs : List Value) (hs : a.eval s = v) (hown : w.ownsRow base e size v n xs)
  (ad : Option Addr) (m c : Nat) (news : List Value) (hx : a.eval x = .slice ad m c) (hl : news.length = m * size) (hnews : 0 < m → ∃ ad', ad = some ad' ∧ ∀ j u, news[j]? = some u → w.cell? (ad'.add j) = some u) (h1 : ∀ u ∈ news, u.oneCell' = true)
  (h63 : n + m ≤ maxLen) (hbytes : (n + m) * bytes ≤ 140737488355328) (hbase : base ≤ w.heap.size)
  (h : ∀ va cap w', w'.ownsRow base e size (.slice va (n + m) cap) (n + m) (xs ++ news) → w.grownBy w' v.ownBlock → (∀ b, (Value.slice va (n + m) cap).ownBlock = some b → v.ownBlock = some b ∨ b = w.heap.size) → (v.ownBlock ≠ none → va ≠ none) → wpList P ops Q rest (a.put o.dst (.slice va (n + m) cap)) w') : wpList P ops Q (o :: rest) a w :=
 wpList_plain hgd fun _ hK => wp_append_any w s x t ho base e i z size bytes ht hi hz hsize hby hzs hsz v n xs hs hown ad m c news hx hl hnews h1 h63 hbytes hbase fun va cap w' h2 h3 h4 h5 => hK _ _ (h va cap w' h2 h3 h4 h5)

/-- The blocks of a place, and its slices. -/
structure PV where
 rg : Nat
 rc : Nat
 wg : Nat
 wa : Option Addr
 wc : Nat
 pg : Nat
 pa : Option Addr
 pc : Nat
 P : Nat → Value
section
variable {w w' : World} {lo N K : Nat} {lab lab' : Nat → Nat} {q : Pl} {a : PV}

end
end
section
open Go.RowKit
set_option linter.unusedSimpArgs false
set_option linter.unusedVariables false
set_option maxRecDepth 8000
/-- Instructions that lie at the beginning of a block. -/
def NewsAt (w : World) (g : Nat) (L : List Ins) : Prop := ∀ j u, (flatI L)[j]? = some u → w.cell? ((⟨g, 0, none⟩ : Addr).add j) = some u
theorem NewsAt.of {w : World} {g : Nat} {L : List Ins} {cs : Array Value} {T : TypeId} (h : Blk w g cs T) (e : cs.toList = flatI L) : NewsAt w g L := fun j u hu => by
 rw [← e] at hu
 exact World.news_of_block h j u hu

theorem run_shl1 (l : Int) (h0 : 0 ≤ l) (h1 : l ≤ 6) (w : World) : (Op.shift .shl .i64 1 .i64 l).run Try.prog w = .ok (.int .i64 (wordsI l)) w := by
 have : l = 0 ∨ l = 1 ∨ l = 2 ∨ l = 3 ∨ l = 4 ∨ l = 5 ∨ l = 6 := by omega
 rcases this with rfl | rfl | rfl | rfl | rfl | rfl | rfl
 all_goals (clear h0 h1; go_simp; rfl)

set_option maxHeartbeats 1000000 in
theorem masked_calls (p : Prg) (i : Ins) (ra : Option Addr) (rc rb ro : Nat) (w : World) (hra : 0 < p.rl → ra = some ⟨rb, ro, none⟩) (hr : RegsAt w rb ro p.rl p.log p.sec) (hok : RegionsOk p.rl p.log) (hc : i.op = 3 ∨ i.op = 4 → Rgn p.rl i.c) :
  Calls Try.prog 49 #[.agg #[.int .i64 i.op, .int .i64 i.a, .int .i64 i.b, .int .i64 i.c, .int .i64 i.n], .slice ra p.rl rc] w fun e w' => ∃ g, e = .returned (.slice (some ⟨g, 0, none⟩) (maskL p i).length (maskL p i).length) ∧ NewsAt w' g (maskL p i) ∧ More w w' := by
 obtain ⟨op, a, b, c, n⟩ := i
 dsimp only at hc ⊢
 by_cases hm : op = 3 ∨ op = 4
 ·have hL : maskL p ⟨op, a, b, c, n⟩ = [⟨10, 8, b, 0, n⟩, ⟨11, 8, 0, 0, wordsI (p.log c.toNat)⟩, ⟨op, a, 8, c, 0⟩] := by unfold maskL; rw [if_pos hm]
  rw [hL]
  have hc' := hc hm
  obtain ⟨c0, c1⟩ := hc'
  obtain ⟨cn, rfl⟩ := Int.eq_ofNat_of_zero_le c0
  have hcn : cn < p.rl := by omega
  have hci : (cn : Int) < (p.rl : Int) := by omega
  obtain rfl := hra (by omega)
  have hrc := (hr cn hcn).1
  have hlg := hok.2 cn hcn
  simp only [Int.toNat_natCast] at hL ⊢
  obtain ⟨lg, Hlg⟩ : ∃ x, Hid (p.log cn = x) := ⟨_, rfl⟩
  obtain ⟨rl, Hrl⟩ : ∃ x, Hid (p.rl = x) := ⟨_, rfl⟩
  rw [Hlg.out] at hrc hlg ⊢
  rw [Hrl.out] at hci ⊢
  clear hL hc c0 c1 hra hok hr Hlg Hrl hcn
  have hsh := run_shl1 lg hlg.1 hlg.2
  obtain ⟨wd, Hwd⟩ : ∃ x, Hid (wordsI lg = x) := ⟨_, rfl⟩
  rw [Hwd.out] at hsh ⊢
  clear hlg Hwd
  have Hm : Hid (op = 3 ∨ op = 4) := hm
  clear hm
  obtain ⟨W, HW⟩ : ∃ W : World, Hid (W = w.alloc (.cells #[.int .i64 op, .int .i64 a, .int .i64 b, .int .i64 (cn : Int), .int .i64 n] 55)) := ⟨_, rfl⟩
  have HwW : Hid (More w W) := HW.out ▸ ((More.refl _).alloc _ _)
  have HbW : Hid (Blk W w.heap.size #[.int .i64 op, .int .i64 a, .int .i64 b, .int .i64 (cn : Int), .int .i64 n] 55) := HW.out ▸ Blk.last _ _ _
  obtain ⟨S, HS⟩ : ∃ S : World → Prop, Hid (∀ w', S w' ↔ More W w') := ⟨fun w' => More W w', fun _ => Iff.rfl⟩
  have HS0 : S W.drew := (HS.out _).2 (More.refl _).drew
  have k0 : ∀ i : { w' // S w' }, i.val.cell? ⟨w.heap.size, 0, none⟩ = some (.int .i64 op) := fun i => (HbW.out.more ((HS.out _).1 i.property)).cell rfl
  have k1 : ∀ i : { w' // S w' }, i.val.cell? ⟨w.heap.size, 1, none⟩ = some (.int .i64 a) := fun i => (HbW.out.more ((HS.out _).1 i.property)).cell rfl
  have k2 : ∀ i : { w' // S w' }, i.val.cell? ⟨w.heap.size, 2, none⟩ = some (.int .i64 b) := fun i => (HbW.out.more ((HS.out _).1 i.property)).cell rfl
  have k3 : ∀ i : { w' // S w' }, i.val.cell? ⟨w.heap.size, 3, none⟩ = some (.int .i64 (cn : Int)) := fun i => (HbW.out.more ((HS.out _).1 i.property)).cell rfl
  have k4 : ∀ i : { w' // S w' }, i.val.cell? ⟨w.heap.size, 4, none⟩ = some (.int .i64 n) := fun i => (HbW.out.more ((HS.out _).1 i.property)).cell rfl
  have kr : ∀ i : { w' // S w' }, i.val.cell? ⟨rb, ro + cn * 2, none⟩ = some (.int .i64 lg) := fun i => ((HS.out _).1 i.property).cell (HwW.out.cell hrc)
  have hne : Nonempty { w' // S w' } := ⟨⟨_, HS0⟩⟩
  clear hrc
  have hop := Hm.out
  clear Hm
  rcases hop with rfl | rfl
  all_goals
   go_enter Try.func49, Try.ntmps49
   go_wp2_with (fail)
   rw [← HW.out]
   refine wp_region_ord (S := S) [(0, true), (1, true), (2, true), (3, true), (4, true), (5, true), (6, true), (7, true), (8, true), (9, true), (10, true), (11, true), (12, true), (13, true), (14, true), (15, true), (16, true), (17, true), (18, true), (19, true), (20, false), (21, true)] (by kernel_rfl) (by kernel_rfl) (by kernel_rfl) HS0 ?_
   iterate 20 (refine wpOrd_take rfl (by kernel_rfl) (fun K hK => ?_); go_simp; refine hK _ _ ?_; clear hK K)
   refine wpOrd_busy rfl (by kernel_rfl) (fun K hK => ?_); go_simp
   refine hK _ _ ((HS.out _).2 ((More.refl _).alloc _ _).drew) ?_; clear hK K
   refine wpOrd_take rfl (by kernel_rfl) (fun K hK => ?_); go_simp; refine hK _ _ ?_; clear hK K
   refine wpOrd_done ?_
   clear k0 k1 k2 k3 k4 kr hne HS0 hsh
   go_wp2
   go_ret
   refine ⟨_, rfl, ?_, ((HwW.out.alloc _ _).drew)⟩
   exact NewsAt.of (T := 55) (Blk.last W _ 55) rfl
 ·have hL : maskL p ⟨op, a, b, c, n⟩ = [⟨op, a, b, c, n⟩] := by unfold maskL; rw [if_neg hm]
  rw [hL]
  have e3 : (op != 3) = true := by simp; exact fun h => hm (.inl h)
  have e4 : (op != 4) = true := by simp; exact fun h => hm (.inr h)
  clear hL hm hc hra hr hok
  go_enter Try.func49, Try.ntmps49
  go_wp2
  go_ret
  refine ⟨_, rfl, NewsAt.of (cs := #[.int .i64 op, .int .i64 a, .int .i64 b, .int .i64 c, .int .i64 n]) (T := 55) (by simpa using Blk.last (w.alloc (.cells #[.int .i64 op, .int .i64 a, .int .i64 b, .int .i64 c, .int .i64 n] 55)) #[.int .i64 op, .int .i64 a, .int .i64 b, .int .i64 c, .int .i64 n] 55) rfl, ((More.refl _).alloc _ _).alloc _ _⟩
theorem info67z : (Try.prog.info? 55).map (fun i => (i.zero, i.size, i.bytes)) = some (some (.agg #[.int .i64 0, .int .i64 0, .int .i64 0, .int .i64 0, .int .i64 0]), 5, 40) := by kernel_rfl
theorem made1_at (x : Value) (n j : Nat) (h : j < n) : (madeCells #[x] n)[j]? = some x := by unfold madeCells; simp [h, Nat.mod_one]

theorem maskL_place {p : Prg} {k : Nat} (ok : p.Ok 200 8) (hk : k < p.cl) : ∀ i ∈ maskL p (p.ins k), i.op = 7 ∨ i.op = 8 → 0 ≤ i.n ∧ i.n < p.cl := by
 intro i hi h
 unfold maskL at hi
 by_cases hm : (p.ins k).op = 3 ∨ (p.ins k).op = 4
 ·rw [if_pos hm] at hi
  simp only [List.mem_cons, List.not_mem_nil, or_false] at hi
  rcases hi with rfl | rfl | rfl
  ·dsimp only at h; omega
  ·dsimp only at h; omega
  ·dsimp only at h; omega
 ·rw [if_neg hm] at hi
  obtain rfl : i = p.ins k := by simpa using hi
  have hI := ok.2.2.2 k hk
  unfold InsOk at hI
  rcases h with h | h
  ·simp [h] at hI
   exact hI.2.2.2
  ·simp [h] at hI
   exact hI.2.2.2
theorem codeL_place {p : Prg} (ok : p.Ok 200 8) : ∀ n, n ≤ p.cl → ∀ i ∈ codeL p n, i.op = 7 ∨ i.op = 8 → 0 ≤ i.n ∧ i.n < p.cl
 | 0, _, i, hi, _ => by simp [codeL, codeG] at hi
 | n + 1, hn, i, hi, h => by
  rcases List.mem_append.1 hi with hi | hi
  ·exact codeL_place ok n (by omega) i hi h
  ·exact maskL_place ok (by omega) i hi h

/-- So many instructions are laid; behind the program's box lie where each begins, and the instructions. -/
structure H1 (w : World) (p : Prg) (rv c0 : Value) (k : Nat) (cv : Value) (wr : World) : Prop where
 box : Blk wr w.heap.size #[rv, c0] 25
 own : wr.ownsRow (w.heap.size + 2) 55 5 cv (startL p k) (flatI (codeL p k))
 room : ∀ j, j < p.cl → ∃ v, Wr wr (w.heap.size + 1) j v
 done : ∀ j, j < k → wr.cell? ⟨w.heap.size + 1, j, none⟩ = some (.int .i64 (startL p j : Nat))
 more : More w wr

theorem H1.start (w : World) (p : Prg) (rv c0 : Value) : H1 w p rv c0 0 (.slice none 0 0) ((w.alloc (.cells #[rv, c0] 25)).alloc (.cells (madeCells #[.int .i64 0] p.cl) 2)) := by
 have hb : Blk ((w.alloc (.cells #[rv, c0] 25)).alloc (.cells (madeCells #[.int .i64 0] p.cl) 2)) (w.heap.size + 1) (madeCells #[.int .i64 0] p.cl) 2 := by
  simpa using Blk.last (w.alloc (.cells #[rv, c0] 25)) (madeCells #[.int .i64 0] p.cl) 2
 exact ⟨(Blk.last _ _ _).more ((More.refl _).alloc _ _), World.ownsRow_nil _ _ _ _, fun j hj => ⟨_, hb.cell (made1_at _ _ _ hj), hb.frozen _⟩, fun j hj => absurd hj (Nat.not_lt_zero _), ((More.refl _).alloc _ _).alloc _ _⟩

theorem H1.step {w : World} {p : Prg} {rv c0 : Value} {k : Nat} {cv : Value} {wr : World} (h : H1 w p rv c0 k cv wr) (hk : k < p.cl) {w1 w2 w3 : World} (cs : Array Value)
  (e1 : w1 = (wr.setCell ⟨w.heap.size + 1, k, none⟩ (.int .i64 (startL p k : Nat))).alloc (.cells cs 55)) (m2 : More w1 w2) (g3 : w2.grownBy w3 cv.ownBlock) {cv' : Value}
  (own : w3.ownsRow (w.heap.size + 2) 55 5 cv' (startL p (k + 1)) (flatI (codeL p (k + 1)))) : H1 w p rv c0 (k + 1) cv' w3 := by
 have hb : ∀ b, cv.ownBlock = some b → w.heap.size + 2 ≤ b := fun b hb => (h.own.lt b hb).1
 have g1 : wr.grownBy w1 (some (w.heap.size + 1)) := by rw [e1]; exact gr_alloc (gr_set (grown_refl _ _) _ _) _
 have g2 : wr.grownBy w2 (some (w.heap.size + 1)) := gr_more g1 m2
 have n3 : ∀ b, b < w.heap.size + 2 → some b ≠ cv.ownBlock := fun b hlt e => by have := hb b e.symm; omega
 have r1 : ∀ j, j < p.cl → ∃ v, Wr w1 (w.heap.size + 1) j v := fun j hj => by
  obtain ⟨v, hv⟩ := h.room j hj
  rw [e1]
  by_cases q : k = j
  ·subst q; exact ⟨_, (hv.same _).kept (World.grownBy_alloc _ _ none) (by simp)⟩
  ·exact ⟨v, (hv.other _ _ _ (.inr q)).kept (World.grownBy_alloc _ _ none) (by simp)⟩
 have d1 : ∀ j, j < k + 1 → w1.cell? ⟨w.heap.size + 1, j, none⟩ = some (.int .i64 (startL p j : Nat)) := fun j hj => by
  obtain ⟨v, hv⟩ := h.room j (by omega)
  rw [e1]
  refine ((More.refl _).alloc _ _).cell ?_
  by_cases q : k = j
  ·subst q; exact (hv.same _).1
  ·rw [World.cell?_setCell_other _ _ _ _ (by intro e; simp only [Addr.mk.injEq] at e; omega)]
   exact h.done j (by omega)
 refine ⟨?_, own, fun j hj => ?_, fun j hj => ?_, ?_⟩
 ·have h2 : Blk w2 w.heap.size #[rv, c0] 25 := (g2.block _ h.box.lt (by simp)).trans h.box
  exact (g3.block _ h2.lt (n3 _ (by omega))).trans h2
 ·obtain ⟨v, hv⟩ := r1 j hj
  exact ⟨v, (hv.kept (m2.grow none) (by simp)).kept g3 (n3 _ (by omega))⟩
 ·exact g3.cell (m2.cell (d1 j hj)) (n3 _ (by show w.heap.size + 1 < _; omega))
 ·have m1 : More w w1 := by rw [e1]; exact (h.more.setCell (by simp) _).alloc _ _
  exact (m1.trans m2).grownBy g3 (fun b e => by have := hb b e; omega)

structure InsWr (w : World) (g j : Nat) (i : Ins) : Prop where
 op : Wr w g (j * 5) (.int .i64 i.op)
 a : Wr w g (j * 5 + 1) (.int .i64 i.a)
 b : Wr w g (j * 5 + 2) (.int .i64 i.b)
 c : Wr w g (j * 5 + 3) (.int .i64 i.c)
 n : Wr w g (j * 5 + 4) (.int .i64 i.n)
theorem InsWr.more {w w' : World} {g j : Nat} {i : Ins} (m : More w w') (h : InsWr w g j i) : InsWr w' g j i :=
 ⟨h.op.kept (m.grow none) (by simp), h.a.kept (m.grow none) (by simp), h.b.kept (m.grow none) (by simp), h.c.kept (m.grow none) (by simp), h.n.kept (m.grow none) (by simp)⟩
theorem getD_at {L : List Ins} {j : Nat} (hj : j < L.length) (d : Ins) : L[j]? = some (L.getD j d) := by
 rw [List.getD_eq_getElem?_getD]
 rw [List.getElem?_eq_getElem hj]
 rfl
section
variable {M : Ins → List Ins} {g : Nat → Ins} {cl : Nat}
/-- What stands there: so many lead to where they should. -/
def mixG (M : Ins → List Ins) (g : Nat → Ins) (cl q j : Nat) : Ins := if j < q then hardG M g cl j else (codeG M g cl).getD j ⟨0, 0, 0, 0, 0⟩
structure H2 (M : Ins → List Ins) (g : Nat → Ins) (cl : Nat) (w : World) (bs : List (Nat × Array Value × TypeId)) (sb gc q : Nat) (wr : World) : Prop where
 code : ∀ j, j < startG M g cl → InsWr wr gc j (mixG M g cl q j)
 starts : ∀ j, j < cl → wr.cell? ⟨sb, j, none⟩ = some (.int .i64 (startG M g j : Nat))
 box : ∀ x ∈ bs, Blk wr x.1 x.2.1 x.2.2 ∧ x.1 < gc
 ne : sb < gc
 lo : w.heap.size ≤ gc
 hi : gc < wr.heap.size
 more : More w wr
variable {w : World} {bs : List (Nat × Array Value × TypeId)} {sb gc q : Nat} {wr w' : World}
theorem H2.start {lo cap : Nat} (own : wr.ownsRow lo 55 5 (.slice (some ⟨gc, 0, none⟩) (startG M g cl) cap) (startG M g cl) (flatI (codeG M g cl)))
  (starts : ∀ j, j < cl → wr.cell? ⟨sb, j, none⟩ = some (.int .i64 (startG M g j : Nat))) (box : ∀ x ∈ bs, Blk wr x.1 x.2.1 x.2.2 ∧ x.1 < lo) (hl : sb < lo ∧ w.heap.size ≤ lo) (m : More w wr) : H2 M g cl w bs sb gc 0 wr := by
 have hg := own.lt gc rfl
 refine ⟨fun j hj => ?_, starts, fun x hx => ⟨(box x hx).1, by have := (box x hx).2; omega⟩, by omega, by omega, hg.2, m⟩
 have e := flatI_at (codeG M g cl) j _ (getD_at hj ⟨0, 0, 0, 0, 0⟩)
 have fz : ∀ o, wr.frozen? ⟨gc, o, none⟩ = false := fun o => World.ownsRow.frozenAt own o
 have c : ∀ o v, (flatI (codeG M g cl))[o]? = some v → o < startG M g cl * 5 → Wr wr gc o v := fun o v hv ho => ⟨by rw [World.ownsRow.cellAt own _ ho]; exact hv, fz _⟩
 exact ⟨c _ _ e.1 (by omega), c _ _ e.2.1 (by omega), c _ _ e.2.2.1 (by omega), c _ _ e.2.2.2.1 (by omega), c _ _ e.2.2.2.2 (by omega)⟩
theorem mixG_here : mixG M g cl q q = (codeG M g cl).getD q ⟨0, 0, 0, 0, 0⟩ := by unfold mixG; rw [if_neg (Nat.lt_irrefl _)]
theorem mixG_next {j : Nat} (h : j ≠ q) : mixG M g cl (q + 1) j = mixG M g cl q j := by
 unfold mixG
 by_cases e : j < q
 ·rw [if_pos e, if_pos (by omega)]
 ·rw [if_neg e, if_neg (by omega)]
theorem mixG_done : mixG M g cl (q + 1) q = leadG M g (mixG M g cl q q) := by
 rw [mixG_here]; unfold mixG hardG; rw [if_pos (by omega)]

theorem H2.far (h : H2 M g cl w bs sb gc q wr) (m : More wr w') : H2 M g cl w bs sb gc q w' :=
 ⟨fun j hj => (h.code j hj).more m, fun j hj => m.cell (h.starts j hj), fun x hx => ⟨(h.box x hx).1.more m, (h.box x hx).2⟩, h.ne, h.lo, Nat.lt_of_lt_of_le h.hi m.size, h.more.trans m⟩
theorem H2.pass (h : H2 M g cl w bs sb gc q wr) (m : More wr w') (h7 : ¬ ((mixG M g cl q q).op = 7 ∨ (mixG M g cl q q).op = 8)) : H2 M g cl w bs sb gc (q + 1) w' := by
 have k := h.far m
 refine ⟨fun j hj => ?_, k.starts, k.box, k.ne, k.lo, k.hi, k.more⟩
 by_cases e : j = q
 ·subst e
  rw [mixG_done, leadG_else _ _ h7]
  exact k.code j hj
 ·rw [mixG_next e]
  exact k.code j hj
theorem H2.lead (h : H2 M g cl w bs sb gc q wr) (h7 : (mixG M g cl q q).op = 7 ∨ (mixG M g cl q q).op = 8) : H2 M g cl w bs sb gc (q + 1) (wr.setCell ⟨gc, q * 5 + 4, none⟩ (.int .i64 (startG M g (mixG M g cl q q).n.toNat : Nat))) := by
 have hlo := h.lo
 have hne := h.ne
 refine ⟨fun j hj => ?_, fun j hj => ?_, fun x hx => ⟨(h.box x hx).1.other (by have := (h.box x hx).2; omega) _ _, (h.box x hx).2⟩, h.ne, h.lo, ?_, ?_⟩
 ·have hc := h.code j hj
  by_cases e : j = q
  ·subst e
   rw [mixG_done]
   unfold leadG
   rw [if_pos h7]
   exact ⟨hc.op.other _ _ _ (.inr (by omega)), hc.a.other _ _ _ (.inr (by omega)), hc.b.other _ _ _ (.inr (by omega)), hc.c.other _ _ _ (.inr (by omega)), hc.n.same _⟩
  ·rw [mixG_next e]
   exact ⟨hc.op.other _ _ _ (.inr (by omega)), hc.a.other _ _ _ (.inr (by omega)), hc.b.other _ _ _ (.inr (by omega)), hc.c.other _ _ _ (.inr (by omega)), hc.n.other _ _ _ (.inr (by omega))⟩
 ·rw [World.cell?_setCell_other _ _ _ _ (by intro e; simp only [Addr.mk.injEq] at e; omega)]
  exact h.starts j hj
 ·simp [World.setCell]; exact h.hi
 ·exact h.more.setCell (by show w.heap.size ≤ gc; omega) _
theorem H2.end_ (h : H2 M g cl w bs sb gc (startG M g cl) wr) : CodeAt wr gc 0 (startG M g cl) (hardG M g cl) := fun j hj => by
 have hc := h.code j hj
 have e : mixG M g cl (startG M g cl) j = hardG M g cl j := by unfold mixG; rw [if_pos hj]
 rw [e] at hc
 simp only [Nat.zero_add]
 exact ⟨hc.op.1, hc.a.1, hc.b.1, hc.c.1, hc.n.1⟩
end
abbrev mixL (p : Prg) (q j : Nat) : Ins := mixG (maskL p) p.ins p.cl q j
theorem H1.second {w : World} {p : Prg} {rv c0 : Value} {gc cap : Nat} {wr : World} (h : H1 w p rv c0 p.cl (.slice (some ⟨gc, 0, none⟩) (startL p p.cl) cap) wr) : H2 (maskL p) p.ins p.cl w [] (w.heap.size + 1) gc 0 wr :=
 H2.start h.own h.done (by simp) (by omega) h.more

set_option maxHeartbeats 2000000 in
theorem hardened_calls (p : Prg) (l : Loc) (w : World) (hp : PIn w p l) (hok : p.Ok 200 8) :
  Calls Try.prog 31 #[.agg #[.slice l.ra p.rl l.rc, .slice l.ca p.cl l.cc]] w fun e w' => ∃ gc cap, e = .returned (.slice (some ⟨gc, 0, none⟩) (startL p p.cl) cap) ∧ w.heap.size ≤ gc ∧ CodeAt w' gc 0 (startL p p.cl) (hardL p) ∧ More w w' := by
 suffices hP : ∀ P : Ending → World → Prop, (∀ gc cap w', w.heap.size ≤ gc → CodeAt w' gc 0 (startL p p.cl) (hardL p) → More w w' → P (.returned (.slice (some ⟨gc, 0, none⟩) (startL p p.cl) cap)) w') → Calls Try.prog 31 #[.agg #[.slice l.ra p.rl l.rc, .slice l.ca p.cl l.cc]] w P from hP _ (fun gc cap w' h a b => ⟨gc, cap, rfl, h, a, b⟩)
 intro P hP0
 have HP : Hid (∀ gc cap w', w.heap.size ≤ gc → CodeAt w' gc 0 (startL p p.cl) (hardL p) → More w w' → P (.returned (.slice (some ⟨gc, 0, none⟩) (startL p p.cl) cap)) w') := hP0
 have Hp : Hid (PIn w p l ∧ p.Ok 200 8) := ⟨hp, hok⟩
 have hcl0 := hok.2.1
 have hcl1 := hok.2.2.1
 have hca := hp.hc (by omega)
 obtain ⟨i0, hi, hz0, hz1, hz2⟩ := info_parts info67z
 have Hi : Hid (Try.prog.info? 55 = some i0 ∧ i0.zero = some (.agg #[.int .i64 0, .int .i64 0, .int .i64 0, .int .i64 0, .int .i64 0]) ∧ i0.size = 5 ∧ i0.bytes = 40) := ⟨hi, hz0, hz1, hz2⟩
 obtain ⟨ra, Hra⟩ : ∃ x, Hid (l.ra = x) := ⟨_, rfl⟩
 obtain ⟨rl, Hrl⟩ : ∃ x, Hid (p.rl = x) := ⟨_, rfl⟩
 obtain ⟨rc, Hrc⟩ : ∃ x, Hid (l.rc = x) := ⟨_, rfl⟩
 obtain ⟨cb, Hcb⟩ : ∃ x, Hid (l.cb = x) := ⟨_, rfl⟩
 obtain ⟨co, Hco⟩ : ∃ x, Hid (l.co = x) := ⟨_, rfl⟩
 obtain ⟨cc, Hcc⟩ : ∃ x, Hid (l.cc = x) := ⟨_, rfl⟩
 obtain ⟨cl, Hcl⟩ : ∃ x, Hid (p.cl = x) := ⟨_, rfl⟩
 rw [hca, Hra.out, Hrl.out, Hrc.out, Hcb.out, Hco.out, Hcc.out, Hcl.out]
 rw [Hcl.out] at hcl0 hcl1
 have HC : Hid (∀ w1 : World, More w w1 → CodeAt w1 cb co cl p.ins) := fun w1 m1 => by
  have := hp.code.more m1
  rw [Hcb.out, Hco.out, Hcl.out] at this
  exact this
 have HM : Hid (∀ k, k < cl → ∀ w1 : World, More w w1 → Calls Try.prog 49 #[.agg #[.int .i64 (p.ins k).op, .int .i64 (p.ins k).a, .int .i64 (p.ins k).b, .int .i64 (p.ins k).c, .int .i64 (p.ins k).n], .slice ra rl rc] w1 fun e w' => ∃ g, e = .returned (.slice (some ⟨g, 0, none⟩) (maskL p (p.ins k)).length (maskL p (p.ins k)).length) ∧ NewsAt w' g (maskL p (p.ins k)) ∧ More w1 w') := fun k hk w1 m1 => by
  have hI := hok.2.2.2 k (by rw [Hcl.out]; exact hk)
  have := masked_calls p (p.ins k) l.ra l.rc l.rb l.ro w1 hp.hr (hp.regs.more m1) hok.1 (fun h => by
   unfold InsOk at hI
   rcases h with h | h
   ·simp [h] at hI; exact hI.2.2
   ·simp [h] at hI; exact hI.2.2)
  rw [Hra.out, Hrl.out, Hrc.out] at this
  exact this
 have Hst : Hid (∀ k, k ≤ cl → startL p k ≤ 600) := fun k hk => by have := startL_most p k; omega
 have HS0 : Hid (H1 w p (.slice ra rl rc) (.slice (some ⟨cb, co, none⟩) cl cc) 0 (.slice none 0 0) ((w.alloc (.cells #[.slice ra rl rc, .slice (some ⟨cb, co, none⟩) cl cc] 25)).alloc (.cells (madeCells #[.int .i64 0] cl) 2))) := by
  have := H1.start w p (.slice ra rl rc) (.slice (some ⟨cb, co, none⟩) cl cc)
  rw [Hcl.out] at this
  exact this
 have hmk := run_make_row' (P := Try.prog) 68 2 (.int .i64 0) 8 Try.underlying68 info2 rfl .i64 .i64 cl (by omega) (by omega)
 clear hP0 hp hok hi hz0 hz1 hz2 hca
 go_enter Try.func31, Try.ntmps31
 go_wp2_with (fail)
 clear hmk
 go_loopg [16, 3] cl (fun g iv cv wr => ∃ (k : Nat) (va : Option Addr) (vc : Nat), k + g = cl ∧ iv = .int .i64 k ∧ cv = .slice va (startL p k) vc ∧ Hid (H1 w p (.slice ra rl rc) (.slice (some ⟨cb, co, none⟩) cl cc) k (.slice va (startL p k) vc) wr))
 case atStart => exact ⟨0, none, 0, by omega, rfl, rfl, HS0.out⟩
 case round =>
  obtain ⟨k, va, vc, hkg, rfl, rfl, Hr⟩ := hrel
  clear HS0
  cases gk with
  | zero =>
   obtain rfl : k = cl := by omega
   have hn0 : 1 ≤ startL p k := by
    obtain ⟨j, rfl⟩ : ∃ j, k = j + 1 := ⟨k - 1, by omega⟩
    rw [startL_next]
    have := (sizeK_pos p j).1
    omega
   have hn1 := Hst.out k (Nat.le_refl _)
   obtain ⟨gc, cap, hv, _, _⟩ := Hr.out.own.form (by omega)
   cases hv
   have H20 : Hid (H2 (maskL p) p.ins p.cl w [] (w.heap.size + 1) gc 0 wr) := by
    have h1 := Hr.out
    rw [← Hcl.out] at h1
    exact h1.second
   have Hpl : Hid (∀ q, q < startL p k → (mixL p q q).op = 7 ∨ (mixL p q q).op = 8 → 0 ≤ (mixL p q q).n ∧ (mixL p q q).n < k) := fun q hq h => by
    simp only [mixL, mixG_here] at h ⊢
    have := codeL_place Hp.out.2 p.cl (Nat.le_refl _) _ (List.mem_of_getElem? (getD_at (L := codeL p p.cl) (j := q) (by rw [Hcl.out]; exact hq) ⟨0, 0, 0, 0, 0⟩)) h
    rw [Hcl.out] at this ⊢
    exact this
   have Hend : Hid (∀ w', H2 (maskL p) p.ins p.cl w [] (w.heap.size + 1) gc (startL p k) w' → P (.returned (.slice (some ⟨gc, 0, none⟩) (startL p k) vc)) w') := fun w' h2 => by
    have h1 := HP.out gc vc w'
    rw [Hcl.out] at h1
    refine h1 (by have := h2.lo; omega) ?_ h2.more
    have h3 := h2
    rw [← Hcl.out] at h3
    rw [← Hcl.out]
    exact h3.end_
   clear HP HM HC
   obtain ⟨sn, Hsn⟩ : ∃ x, Hid (startL p k = x) := ⟨_, rfl⟩
   rw [Hsn.out] at hn0 hn1 Hpl Hend Hr ⊢
   obtain ⟨wm, rfl⟩ : ∃ wm, wm = wr := ⟨wr, rfl⟩
   go_wp2_with (fail)
   go_loopg [35] sn (fun g2 iv wr2 => ∃ q : Nat, q + g2 = sn ∧ iv = .int .i64 q ∧ Hid (H2 (maskL p) p.ins p.cl w [] (w.heap.size + 1) gc q wr2))
   case atStart => exact ⟨0, by omega, rfl, H20.out⟩
   case round =>
    obtain ⟨q, hqg, rfl, Hr2⟩ := hrel
    clear H20
    cases gk with
    | zero =>
     obtain rfl : q = sn := by omega
     have He : Hid (P (.returned (.slice (some ⟨gc, 0, none⟩) q vc)) wr) := Hend.out wr Hr2.out
     clear Hend
     go_wp2
     exact He.out
    | succ g =>
     have hq : q < sn := by omega
     have hqi : (q : Int) < sn := by omega
     have hq63 : wrap64 ((q : Int) + 1) = (q : Int) + 1 := by unfold wrap64; omega
     have hI : InsWr wr gc q (mixL p q q) := Hr2.out.code q (by show q < startL p p.cl; rw [Hcl.out, Hsn.out]; exact hq)
     have Hpq := Hpl.out q hq
     have Hps : Hid (¬ ((mixL p q q).op = 7 ∨ (mixL p q q).op = 8) → ∀ w', More wr w' → H2 (maskL p) p.ins p.cl w [] (w.heap.size + 1) gc (q + 1) w') := fun h w' m => Hr2.out.pass m h
     have Hld : Hid ((mixL p q q).op = 7 ∨ (mixL p q q).op = 8 → H2 (maskL p) p.ins p.cl w [] (w.heap.size + 1) gc (q + 1) (wr.setCell ⟨gc, q * 5 + 4, none⟩ (.int .i64 (startL p (mixL p q q).n.toNat : Nat)))) := fun h => Hr2.out.lead h
     obtain ⟨⟨op, a, b, c, n⟩, HI⟩ : ∃ x, Hid (mixL p q q = x) := ⟨_, rfl⟩
     rw [HI.out] at hI Hpq Hps Hld
     obtain ⟨⟨c0, _⟩, ⟨c1, _⟩, ⟨c2, _⟩, ⟨c3, _⟩, ⟨c4, f4⟩⟩ := hI
     dsimp only at c0 c1 c2 c3 c4 Hpq Hps Hld
     have zg := Hr2.out.hi
     by_cases h78 : op = 7 ∨ op = 8
     ·have hpq := Hpq h78
      obtain ⟨n0, n1⟩ := hpq
      obtain ⟨nn, rfl⟩ := Int.eq_ofNat_of_zero_le n0
      have hnk : (nn : Int) < (k : Int) := n1
      have hsN : wr.cell? ⟨w.heap.size + 1, nn, none⟩ = some (.int .i64 (startL p nn : Nat)) := Hr2.out.starts nn (by rw [Hcl.out]; omega)
      have zs := cell_block hsN
      dsimp only at zs
      have Hn2 : Hid (∀ w', More (wr.setCell ⟨gc, q * 5 + 4, none⟩ (.int .i64 (startL p nn : Nat))) w' → H2 (maskL p) p.ins p.cl w [] (w.heap.size + 1) gc (q + 1) w') := fun w' m' => (Hld.out h78).far m'
      obtain ⟨sN, HsN⟩ : ∃ x, Hid (startL p nn = x) := ⟨_, rfl⟩
      rw [HsN.out] at hsN Hn2
      have ne1 : ¬ wr.heap.size = gc := by omega
      have ne2 : ¬ gc = wr.heap.size := by omega
      clear Hps Hld Hpq n0 n1
      rcases h78 with rfl | rfl
      all_goals
       go_wp2
       go_roundg g
       case measure => omega
       case rel => exact ⟨q + 1, by omega, by first | rfl | simp, Hn2.out _ ((More.refl _).alloc _ _)⟩
     ·have e7 : (op == 7) = false := by simp; omega
      have e8 : (op == 8) = false := by simp; omega
      have Hn2 : Hid (∀ w', More wr w' → H2 (maskL p) p.ins p.cl w [] (w.heap.size + 1) gc (q + 1) w') := Hps.out h78
      clear h78 Hps Hld Hpq
      go_wp2
      go_roundg g
      case measure => omega
      case rel => exact ⟨q + 1, by omega, by first | rfl | simp, Hn2.out _ ((More.refl _).alloc _ _)⟩
  | succ g =>
   have hk : k < cl := by omega
   have hki : (k : Int) < cl := by omega
   have hk63 : wrap64 ((k : Int) + 1) = (k : Int) + 1 := by unfold wrap64; omega
   obtain ⟨q0, q1, q2, q3, q4⟩ := HC.out wr Hr.out.more k hk
   have HM1 := HM.out k hk
   have HL : Hid (codeL p (k + 1) = codeL p k ++ maskL p (p.ins k) ∧ startL p k + (maskL p (p.ins k)).length = startL p (k + 1) ∧ 1 ≤ (maskL p (p.ins k)).length ∧ (maskL p (p.ins k)).length ≤ 3) := ⟨rfl, by rw [maskL_length, startL_next], by rw [maskL_length]; exact (sizeK_pos p k).1, by rw [maskL_length]; exact (sizeK_pos p k).2⟩
   obtain ⟨L, HLL⟩ : ∃ x, Hid (maskL p (p.ins k) = x) := ⟨_, rfl⟩
   rw [HLL.out] at HM1 HL
   obtain ⟨m, Hlen⟩ : ∃ x, Hid (L.length = x) := ⟨_, rfl⟩
   rw [Hlen.out] at HM1 HL
   have hst0 := Hst.out k (by omega)
   obtain ⟨st, Hstk⟩ : ∃ x, Hid (startL p k = x) := ⟨_, rfl⟩
   rw [Hstk.out] at HL hst0 Hr ⊢
   obtain ⟨⟨op, a, b, c, n⟩, HI⟩ : ∃ x, Hid (p.ins k = x) := ⟨_, rfl⟩
   rw [HI.out] at q0 q1 q2 q3 q4 HM1
   dsimp only at q0 q1 q2 q3 q4 HM1
   have HM2 : Hid (∀ w1 : World, More w w1 → Calls Try.prog 49 #[.agg #[.int .i64 op, .int .i64 a, .int .i64 b, .int .i64 c, .int .i64 n], .slice ra rl rc] w1 fun e w' => ∃ g, e = .returned (.slice (some ⟨g, 0, none⟩) m m) ∧ NewsAt w' g L ∧ More w1 w') := HM1
   have b0 : wr.cell? ⟨w.heap.size, 0, none⟩ = some (.slice ra rl rc) := Hr.out.box.cell rfl
   have hz0 := Hr.out.box.lt
   obtain ⟨rv, hrv, hfz⟩ := Hr.out.room k (by rw [Hcl.out]; exact hk)
   have hz1 : w.heap.size + 1 < wr.heap.size := cell_block hrv
   have n1 : ¬ wr.heap.size = w.heap.size + 1 := by omega
   have n2 : ¬ w.heap.size + 1 = wr.heap.size := by omega
   obtain ⟨w1, Hw1⟩ : ∃ w_ : World, Hid (w_ = (wr.setCell ⟨w.heap.size + 1, k, none⟩ (.int .i64 (st : Nat))).alloc (.cells #[.int .i64 op, .int .i64 a, .int .i64 b, .int .i64 c, .int .i64 n] 55)) := ⟨_, rfl⟩
   have Hm1 : Hid (More w w1) := by rw [Hw1.out]; exact (Hr.out.more.setCell (by simp) _).alloc _ _
   have Hg1 : Hid (wr.grownBy w1 (some (w.heap.size + 1))) := by rw [Hw1.out]; exact gr_alloc (gr_set (grown_refl _ _) _ _) _
   clear HM1
   go_wp2_with (fail)
   rw [← Hw1.out]
   refine (HM2.out w1 Hm1.out).mono ?_
   rintro e w2 ⟨g0, rfl, hnews, m2⟩
   have Hnews : Hid (NewsAt w2 g0 L) := hnews
   have Hm2 : Hid (More w1 w2) := m2
   have Hown2 : Hid (w2.ownsRow (w.heap.size + 2) 55 5 (.slice va st vc) st (flatI (codeL p k))) := by
    have ho := Hr.out.own
    rw [Hstk.out] at ho
    refine World.ownsRow.kept ho (gr_more Hg1.out m2) ?_
    cases hv : (Value.slice va st vc).ownBlock with
    | none => left; rfl
    | some b =>
     right
     intro e
     have h1 := (World.ownsRow.lt ho b hv).1
     have h2 := Option.some.inj e
     omega
   have Hb2 : Hid (w.heap.size + 2 ≤ w2.heap.size) := by
    have h1 := m2.size
    have h2 := Hg1.out.size
    show _ ≤ _
    omega
   clear hnews m2 q0 q1 q2 q3 q4 b0 hrv hfz
   go_wp2_with (at_builtin; refine wpList_append_lies _ rfl (.tmp 26) (.tmp 30) 23 rfl (w.heap.size + 2) 55 i0 (.agg #[.int .i64 0, .int .i64 0, .int .i64 0, .int .i64 0, .int .i64 0]) 5 40 Try.underlying23 Hi.out.1 Hi.out.2.1 Hi.out.2.2.1 Hi.out.2.2.2 rfl (by decide) (.slice va st vc) st (flatI (codeL p k)) rfl Hown2.out ⟨g0, 0, none⟩ m m (flatI L) rfl (by rw [flatI_length, Hlen.out]) Hnews.out (flatI_one L) (by have := HL.out.2.2.1; omega) (by have := HL.out.2.2.2; unfold maxLen; omega) (by have := HL.out.2.2.2; omega) Hb2.out w2.heap.size rfl ?_; intro g3 cap3 w3 own3 gr3 hat3 hlt3)
   have hst3 : st + m = startL p (k + 1) := HL.out.2.1
   have Hr3 : Hid (H1 w p (.slice ra rl rc) (.slice (some ⟨cb, co, none⟩) cl cc) (k + 1) (.slice (some ⟨g3, 0, none⟩) (startL p (k + 1)) cap3) w3) := by
    rw [hst3, ← flatI_append, ← HL.out.1] at own3
    have e1 := Hw1.out
    rw [← Hstk.out] at e1 gr3
    have hr := Hr.out
    rw [← Hstk.out] at hr
    exact hr.step (by rw [Hcl.out]; exact hk) _ e1 Hm2.out gr3 own3
   clear own3 gr3 hat3 hlt3
   go_wp2
   go_roundg g
   case measure => omega
   case rel => exact ⟨k + 1, _, cap3, by omega, by first | rfl | simp, by rw [← hst3], Hr3.out⟩
end
end Go.Proofs.Ytlbfbjeilfcjeaa
