/-
  The texts CkCheck, RefSame, R8, HdLaw, FnSame, SemSpec, SpQuiet, CkQuiet, HdShape, FnShape, HdPlain, FnPlain, one behind the other, with what is used of them.
-/
import Derived.Test.YtmpafeoileonjaaJoined7
import Derived.Test.YtmpafeoileonjaaRows
import Derived.WalkKit
import Derived.Deep.LoopGhost
import Derived.Test.YtmpafeoileonjaaJoined0
import Derived.Test.YtmpafeoileonjaaJoined6
import Derived.Test.YtmpafeoileonjaaJoined5
namespace Go.Proofs.Ytmpafeoileonjaa
section
open Go.RowKit
set_option linter.unusedSimpArgs false
set_option linter.unusedVariables false
set_option maxRecDepth 8000
/-- A lead is to where no instruction is just if the instruction leads there. -/
theorem out_iff {p : Prg} {at_ : Nat} (hi : InsOk p.rl p.log p.cl 8 (p.ins at_)) (s : KS) : (∃ (i : Nat) (x : Nat × KS), (leadsK p at_ s)[i]? = some x ∧ p.cl ≤ x.1) ↔ outK p at_ = true := by
 unfold outK
 have hI := hi
 unfold InsOk Plc at hI
 constructor
 ·rintro ⟨i, x, hx, hc⟩
  have hm := List.mem_of_getElem? hx
  unfold leadsK at hm
  by_cases h7 : (p.ins at_).op = 7
  ·rw [if_pos h7] at hm
   simp [h7] at hI
   simp at hm; subst hm; dsimp only at hc; omega
  rw [if_neg h7] at hm
  by_cases h9 : (p.ins at_).op = 9
  ·rw [if_pos h9] at hm; simp at hm
  rw [if_neg h9] at hm
  by_cases h8 : (p.ins at_).op = 8
  ·rw [if_pos h8] at hm
   simp [h8] at hI
   simp at hm
   rcases hm with rfl | rfl
   ·dsimp only at hc; omega
   ·simp [h7, h9]; exact hc
  ·rw [if_neg h8] at hm
   simp at hm; subst hm
   simp [h7, h9]; exact hc
 ·intro h
  simp at h
  obtain ⟨h7, h9, hc⟩ := h
  unfold leadsK
  rw [if_neg h7, if_neg h9]
  by_cases h8 : (p.ins at_).op = 8
  ·rw [if_pos h8]; exact ⟨1, _, rfl, hc⟩
  ·rw [if_neg h8]; exact ⟨0, _, rfl, hc⟩

/-- A fault, as a value. -/
abbrev flt (c a : Int) : Value := .agg #[.int .i64 c, .int .i64 a]

theorem check6_form (rv cv : Value) (hrv : ∃ a n c, rv = .slice a n c) (hcv : ∃ a n c, cv = .slice a n c) (w : World) (cm : ∀ w1 : World, More w w1 → Calls Try.prog 22 #[.agg #[rv, cv]] w1 fun e w' => e = .returned (.bool false) ∧ More w1 w') :
  Calls Try.prog 7 #[.agg #[rv, cv]] w fun e w' => e = .returned (flt 2 0) ∧ More w w' := by
 obtain ⟨a, n, c, rfl⟩ := hrv
 obtain ⟨a2, n2, c2, rfl⟩ := hcv
 unfold flt
 go_enter Try.func7, Try.ntmps7
 go_wp2_with (fail)
 refine (cm _ (((More.refl _).alloc _ _).alloc _ _)).mono ?_
 rintro e w1 ⟨rfl, m1⟩
 have Hres : Hid (Blk w1 (w.heap.size + 1) #[.int .i64 0, .int .i64 0] 28) := (by simpa using Blk.last (w.alloc (.cells #[.slice a n c, .slice a2 n2 c2] 25)) #[.int .i64 0, .int .i64 0] 28 : Blk ((w.alloc (.cells #[.slice a n c, .slice a2 n2 c2] 25)).alloc (.cells #[.int .i64 0, .int .i64 0] 28)) (w.heap.size + 1) #[.int .i64 0, .int .i64 0] 28).more m1
 have Hm1 : Hid (More w w1) := (((More.refl _).alloc _ _).alloc _ _).trans m1
 clear m1
 have t0 := Hres.out.cell (j := 0) (v := .int .i64 0) rfl
 have t1 := Hres.out.cell (j := 1) (v := .int .i64 0) rfl
 have u0 := Hres.out.frozen 0
 have u1 := Hres.out.frozen 1
 go_wp2
 exact bodyPost_ret (by simp [results, Try.results7, go_sem, *]) rfl ⟨rfl, (Hm1.out.setCell (by dsimp only; omega) _).setCell (by dsimp only; omega) _⟩

set_option maxHeartbeats 8000000 in
theorem check6_ok (p : Prg) (lo : Loc) (w : World) (hp : PIn w p lo) (hok : p.Ok 200 8) (hn : ∀ i, i < p.cl → -9223372036854775808 ≤ (p.ins i).n ∧ (p.ins i).n ≤ 9223372036854775807)
  (cm : ∀ w1 : World, More w w1 → Calls Try.prog 22 #[.agg #[.slice lo.ra p.rl lo.rc, .slice lo.ca p.cl lo.cc]] w1 fun e w' => e = .returned (.bool true) ∧ More w1 w') :
  Calls Try.prog 7 #[.agg #[.slice lo.ra p.rl lo.rc, .slice lo.ca p.cl lo.cc]] w fun e w' => ∃ l, Known p l ∧ e = .returned (flt (checkK p l).1 (checkK p l).2) ∧ More w w' := by
 suffices hP : ∀ P : Ending → World → Prop, (∀ l, Known p l → ∀ w', More w w' → P (.returned (flt (checkK p l).1 (checkK p l).2)) w') → Calls Try.prog 7 #[.agg #[.slice lo.ra p.rl lo.rc, .slice lo.ca p.cl lo.cc]] w P from hP _ (fun l h1 w' h2 => ⟨l, h1, rfl, h2⟩)
 intro P hP0
 have HP : Hid (∀ l, Known p l → ∀ w', More w w' → P (.returned (flt (checkK p l).1 (checkK p l).2)) w') := hP0
 have H : Hid (PIn w p lo ∧ p.Ok 200 8 ∧ ∀ i, i < p.cl → -9223372036854775808 ≤ (p.ins i).n ∧ (p.ins i).n ≤ 9223372036854775807) := ⟨hp, hok, hn⟩
 have h1 : 1 ≤ p.cl := hok.2.1
 have h2 : p.cl ≤ 200 := hok.2.2.1
 have hi1 : (1 : Int) ≤ p.cl := by omega
 have hi2 : (p.cl : Int) ≤ 200 := by omega
 clear hP0 hp hok hn
 have HS0 : Hid (∀ w1 : World, More w w1 → Calls Try.prog 23 #[.agg #[.slice lo.ra p.rl lo.rc, .slice lo.ca p.cl lo.cc]] w1 fun e w' => ∃ lb l, e = .returned (.slice (some ⟨lb, 0, none⟩) p.cl p.cl) ∧ VAt w' lb p.cl l ∧ Known p l ∧ More w1 w') := fun w1 m => states_calls p lo w1 (H.out.1.more m) H.out.2.1 H.out.2.2
 obtain ⟨cl, hcl⟩ : ∃ cl, p.cl = cl := ⟨_, rfl⟩
 have Hcl : Hid (p.cl = cl) := hcl
 rw [hcl] at h1 h2 hi1 hi2 cm ⊢
 have HSt : Hid (∀ w1 : World, More w w1 → Calls Try.prog 23 #[.agg #[.slice lo.ra p.rl lo.rc, .slice lo.ca cl lo.cc]] w1 fun e w' => ∃ lb l, e = .returned (.slice (some ⟨lb, 0, none⟩) cl cl) ∧ VAt w' lb p.cl l ∧ Known p l ∧ More w1 w') := by
  have := HS0.out
  rw [hcl] at this
  rw [hcl]; exact this
 have Hcm : Hid (∀ w1 : World, More w w1 → Calls Try.prog 22 #[.agg #[.slice lo.ra p.rl lo.rc, .slice lo.ca cl lo.cc]] w1 fun e w' => e = .returned (.bool true) ∧ More w1 w') := cm
 clear hcl HS0 cm
 obtain ⟨ra, rb, ro, rc, ca, cb, co, cc⟩ := lo
 dsimp only at HSt Hcm ⊢
 obtain rfl : ca = some ⟨cb, co, none⟩ := H.out.1.hc (by have := Hcl.out; omega)
 obtain ⟨W0, HW0⟩ : ∃ W0 : World, Hid (W0 = (w.alloc (.cells #[.slice ra p.rl rc, .slice (some ⟨cb, co, none⟩) cl cc] 25)).alloc (.cells #[.int .i64 0, .int .i64 0] 28)) := ⟨_, rfl⟩
 have HM0 : Hid (More w W0) := HW0.out ▸ ((More.refl _).alloc _ _).alloc _ _
 have HBX : Hid (Blk W0 w.heap.size #[.slice ra p.rl rc, .slice (some ⟨cb, co, none⟩) cl cc] 25) := HW0.out ▸ (Blk.last _ _ _).more ((More.refl _).alloc _ _)
 have HRES : Hid (Blk W0 (w.heap.size + 1) #[.int .i64 0, .int .i64 0] 28) := by
  show Blk _ _ _ _
  rw [HW0.out]
  simpa using Blk.last (w.alloc (.cells #[.slice ra p.rl rc, .slice (some ⟨cb, co, none⟩) cl cc] 25)) #[.int .i64 0, .int .i64 0] 28
 go_enter Try.func7, Try.ntmps7
 go_wp2_with (fail)
 rw [← HW0.out]
 refine (Hcm.out _ HM0.out).mono ?_
 rintro e w1 ⟨rfl, m1⟩
 have HM1 : Hid (More W0 w1) := m1
 clear m1
 have p0 : w1.cell? ⟨w.heap.size, 0, none⟩ = some (.slice ra p.rl rc) := (HBX.out.more HM1.out).cell rfl
 have p1 : w1.cell? ⟨w.heap.size, 1, none⟩ = some (.slice (some ⟨cb, co, none⟩) cl cc) := (HBX.out.more HM1.out).cell rfl
 go_wp2_with (fail)
 refine (HSt.out _ (HM0.out.trans HM1.out)).mono ?_
 rintro e w2 ⟨lb, L, rfl, hv, hkn, m2⟩
 have HV2 : Hid (VAt w2 lb p.cl L ∧ Known p L) := ⟨hv, hkn⟩
 have HM2 : Hid (More W0 w2) := HM1.out.trans m2
 clear m2 hv hkn p0 p1
 go_wp2_with (fail)
 go_loopg [4] cl (fun g iv wr => ∃ k : Nat, k + g = cl ∧ iv = .int .i64 k ∧ Hid (More w2 wr ∧ checkK p L = scanK p L g k))
 case atStart => exact ⟨0, by omega, rfl, More.refl _, by unfold checkK; rw [Hcl.out]⟩
 case round =>
  obtain ⟨k, hkg, rfl, HR⟩ := hrel
  obtain ⟨wm, rfl⟩ : ∃ wm, wm = wr := ⟨wr, rfl⟩
  have HMm : Hid (More W0 wm) := HM2.out.trans HR.out.1
  have HVm : Hid (VAt wm lb p.cl L) := HV2.out.1.more HR.out.1 (by have := Hcl.out; omega)
  have Hsc : Hid (checkK p L = scanK p L gk k) := HR.out.2
  have HMw : Hid (More w2 wm) := HR.out.1
  clear HR
  cases gk with
  | zero =>
   have He : Hid (checkK p L = (0, 0)) := Hsc.out
   clear Hsc
   have t0 := (HRES.out.more HMm.out).cell (j := 0) (v := .int .i64 0) rfl
   have t1 := (HRES.out.more HMm.out).cell (j := 1) (v := .int .i64 0) rfl
   have u0 := (HRES.out.more HMm.out).frozen 0
   have u1 := (HRES.out.more HMm.out).frozen 1
   go_wp2
   refine bodyPost_ret (v := flt 0 0) (by simp [flt, results, Try.results7, go_sem, *]) rfl ?_
   have hE := HP.out L HV2.out.2 _ (((HM0.out.trans HMm.out).setCell (a := ⟨w.heap.size + 1, 0, none⟩) (by dsimp only; omega) (.int .i64 0)).setCell (a := ⟨w.heap.size + 1, 1, none⟩) (by dsimp only; omega) (.int .i64 0))
   rw [He.out] at hE
   exact hE
  | succ g =>
   have hk : k < cl := by omega
   have hki : (k : Int) < cl := by omega
   have hca := HVm.out.at_ k (by rw [Hcl.out]; exact hk)
   cases eL : L k with
   | none =>
    rw [eL] at hca
    have c0 := hca.1
    have Hn2 : Hid (checkK p L = scanK p L g (k + 1)) := by show _ = _; rw [Hsc.out]; simp only [scanK, eL]
    clear hca eL Hsc
    go_wp2
    go_roundg g
    case measure => omega
    case rel => exact ⟨k + 1, by omega, by first | rfl | simp, HMw.out, Hn2.out⟩
   | some s =>
    rw [eL] at hca
    obtain ⟨gs, cs, c0, c1, hks, hgne⟩ := hca
    have Hks : Hid (KRow wm gs s) := hks
    have Hpk : Hid (k < p.cl) := by show _ < _; rw [Hcl.out]; exact hk
    have Hi : Hid (InsOk p.rl p.log p.cl 8 (p.ins k)) := H.out.2.1.2.2.2 k Hpk.out
    have Hn2 : Hid (checkK p L = if faultK p k s = 0 then scanK p L g (k + 1) else (faultK p k s, (k : Int))) := by show _ = _; rw [Hsc.out]; simp only [scanK, eL]
    have Hout : Hid ((∃ (i : Nat) (x : Nat × KS), (leadsK p k s)[i]? = some x ∧ p.cl ≤ x.1) ↔ outK p k = true) := out_iff Hi.out s
    clear eL hks hgne Hsc
    have q := (H.out.1.more (HM0.out.trans HMm.out)).code k Hpk.out
    obtain ⟨q0, q1, q2, q3, q4⟩ := q
    obtain ⟨i, hi⟩ : ∃ i, p.ins k = i := ⟨_, rfl⟩
    rw [hi] at q0 q1 q2 q3 q4
    have HI : Hid (p.ins k = i) := hi
    clear hi
    obtain ⟨op, a, b, ic, n⟩ := i
    dsimp only at q0 q1 q2 q3 q4
    have p0 : wm.cell? ⟨w.heap.size, 0, none⟩ = some (.slice ra p.rl rc) := (HBX.out.more HMm.out).cell rfl
    have p1 : wm.cell? ⟨w.heap.size, 1, none⟩ = some (.slice (some ⟨cb, co, none⟩) cl cc) := (HBX.out.more HMm.out).cell rfl
    obtain ⟨W8, HW8⟩ : ∃ W8 : World, Hid (W8 = wm.alloc (.cells #[.int .i64 op, .int .i64 a, .int .i64 b, .int .i64 ic, .int .i64 n] 59)) := ⟨_, rfl⟩
    have HM8 : Hid (More wm W8) := HW8.out ▸ (More.refl _).alloc _ _
    have HB8 : Hid (Blk W8 wm.heap.size #[.int .i64 op, .int .i64 a, .int .i64 b, .int .i64 ic, .int .i64 n] 59) := HW8.out ▸ Blk.last _ _ _
    obtain ⟨S, HS⟩ : ∃ S : World → Prop, Hid (∀ w', S w' ↔ More W8 w') := ⟨_, fun _ => Iff.rfl⟩
    have HSd : S W8.drew := (HS.out _).2 (More.refl _).drew
    have hne : Nonempty { w' // S w' } := ⟨⟨_, HSd⟩⟩
    have k0 : ∀ i : { w' // S w' }, i.val.cell? ⟨lb, k * 2, none⟩ = some (.bool true) := fun i => (HM8.out.trans ((HS.out _).1 i.property)).cell c0
    have k1 : ∀ i : { w' // S w' }, i.val.cell? ⟨lb, k * 2 + 1, none⟩ = some (.slice (some ⟨gs, 0, none⟩) 8 cs) := fun i => (HM8.out.trans ((HS.out _).1 i.property)).cell c1
    have k2 : ∀ i : { w' // S w' }, i.val.cell? ⟨w.heap.size, 0, none⟩ = some (.slice ra p.rl rc) := fun i => (HM8.out.trans ((HS.out _).1 i.property)).cell p0
    have k3 : ∀ i : { w' // S w' }, i.val.cell? ⟨w.heap.size, 1, none⟩ = some (.slice (some ⟨cb, co, none⟩) cl cc) := fun i => (HM8.out.trans ((HS.out _).1 i.property)).cell p1
    have Hld : Hid (∀ w1 : World, More wm w1 → Calls Try.prog 24 #[.agg #[.slice ra p.rl rc, .slice (some ⟨cb, co, none⟩) cl cc], .int .i64 k, st true gs cs] w1 fun e w' => ∃ v, e = .returned v ∧ LdAt w' w1.heap.size v (leadsK p k s) ∧ More w1 w') := fun w1 m => by
     have := leads_calls p ⟨ra, rb, ro, rc, some ⟨cb, co, none⟩, cb, co, cc⟩ k gs cs s w1 (H.out.1.more ((HM0.out.trans HMm.out).trans m)) Hpk.out H.out.2.1.2.2.1 Hi.out (H.out.2.2 k Hpk.out).1 (H.out.2.2 k Hpk.out).2 (Hks.out.more m)
     dsimp only at this
     rw [Hcl.out] at this
     exact this
    have zb := cell_block p0
    have zc := cell_block q0
    have zl := cell_block c0
    dsimp only at zb zc zl
    go_wp2_with (fail)
    rw [← HW8.out]
    refine wp_region_ord (S := S) [(0, true), (1, true), (2, true), (3, true), (4, true), (5, true), (6, false), (7, true)] (by kernel_rfl) (by kernel_rfl) (by kernel_rfl) HSd ?_
    iterate 6 (refine wpOrd_take rfl (by kernel_rfl) (fun K hK => ?_); go_simp; refine hK _ _ ?_; clear hK K)
    refine wpOrd_busy rfl (by kernel_rfl) (fun K hK => ?_); go_simp
    refine (Hld.out _ (HM8.out.drew)).mono ?_
    rintro e w3 ⟨lv, rfl, hlv, m3⟩
    have HM3 : Hid (More W8 w3) := (More.refl _).drew.trans m3
    have HS3 : S w3 := (HS.out _).2 HM3.out
    obtain ⟨ls, hls⟩ : ∃ ls, leadsK p k s = ls := ⟨_, rfl⟩
    rw [hls] at hlv
    have Hls : Hid ((∃ (i : Nat) (x : Nat × KS), ls[i]? = some x ∧ p.cl ≤ x.1) ↔ outK p k = true) := by have := Hout.out; rw [hls] at this; exact this
    clear hls Hout
    obtain ⟨la, lbk, lcap, rfl, hla, _, hl2, hcells⟩ := hlv
    obtain ⟨nl, hnl⟩ : ∃ nl, ls.length = nl := ⟨_, rfl⟩
    rw [hnl] at hla hl2 ⊢
    have Hce : Hid (∀ j x, ls[j]? = some x → w3.cell? ⟨lbk, j * 3, none⟩ = some (.int .i64 (x.1 : Int))) := fun j x hx => by obtain ⟨_, _, q, _⟩ := hcells j x hx; exact q
    have Hnl : Hid (ls.length = nl ∧ (0 < nl → la = some ⟨lbk, 0, none⟩)) := ⟨hnl, hla⟩
    clear m3 hnl hla hcells
    go_simp
    refine hK _ _ HS3 ?_; clear hK K
    (refine wpOrd_take rfl (by kernel_rfl) (fun K hK => ?_); go_simp; refine hK _ _ ?_; clear hK K)
    refine wpOrd_done ?_
    clear k0 k1 k2 k3 hne HSd HS3 q0 q1 q2 q3 q4 zb zc zl
    go_wp2_with (fail)
    go_loopg [7, 8] nl (fun g3 bv iv wr3 => ∃ (j : Nat) (bb : Bool), j + g3 = nl ∧ iv = .int .i64 j ∧ bv = .bool bb ∧ wr3 = w3 ∧ Hid (bb = true ↔ ∃ (i : Nat) (x : Nat × KS), i < j ∧ ls[i]? = some x ∧ p.cl ≤ x.1))
    case atStart => exact ⟨0, false, by omega, rfl, rfl, rfl, ⟨fun h => absurd h (by simp), fun ⟨i, x, h, _⟩ => absurd h (Nat.not_lt_zero _)⟩⟩
    case round =>
     obtain ⟨j, bb, hjg, rfl, rfl, rfl, HJ⟩ := hrel
     obtain ⟨w3, rfl⟩ : ∃ w3, w3 = wr := ⟨wr, rfl⟩
     cases gk with
     | succ g3 =>
      have hj : j < nl := by omega
      have hji : (j : Int) < nl := by omega
      have hnli : (nl : Int) ≤ 2 := by omega
      obtain ⟨x, hx⟩ : ∃ x, ls[j]? = some x := ⟨ls[j]'(by rw [Hnl.out.1]; exact hj), List.getElem?_eq_getElem _⟩
      obtain rfl : la = some ⟨lbk, 0, none⟩ := Hnl.out.2 (by omega)
      have l0 := Hce.out j x hx
      have Hx : Hid (ls[j]? = some x) := hx
      obtain ⟨xto, xs⟩ := x
      dsimp only at l0
      clear hx
      obtain ⟨dd, hdd⟩ : ∃ d, decide (cl ≤ xto) = d := ⟨_, rfl⟩
      have Hnx : Hid ((bb || dd) = true ↔ ∃ (i : Nat) (x : Nat × KS), i < j + 1 ∧ ls[i]? = some x ∧ p.cl ≤ x.1) := by
       rw [Bool.or_eq_true, HJ.out]
       constructor
       ·rintro (⟨i, x, h1, h2, h3⟩ | h)
        ·exact ⟨i, x, by omega, h2, h3⟩
        ·refine ⟨j, _, by omega, Hx.out, ?_⟩
         rw [← hdd, decide_eq_true_eq] at h
         have := Hcl.out
         dsimp only; omega
       ·rintro ⟨i, x, h1, h2, h3⟩
        by_cases e : i = j
        ·subst e
         rw [Hx.out] at h2
         cases h2
         right
         rw [← hdd, decide_eq_true_eq]
         have := Hcl.out
         dsimp only at h3; omega
        ·exact .inl ⟨i, x, by omega, h2, h3⟩
      clear HJ
      cases bb
      ·simp only [Bool.false_or] at Hnx
       go_wp2
       go_roundg g3
       case measure => omega
       case rel => exact ⟨j + 1, dd, by omega, by first | rfl | simp, rfl, rfl, Hnx.out⟩
      ·simp only [Bool.true_or] at Hnx
       clear hdd
       go_wp2
       go_roundg g3
       case measure => omega
       case rel => exact ⟨j + 1, true, by omega, by first | rfl | simp, rfl, rfl, ⟨fun _ => Hnx.out.1 trivial, fun _ => rfl⟩⟩
     | zero =>
      have HO : Hid (bb = outK p k) := by
       show _ = _
       rw [Bool.eq_iff_iff, HJ.out, ← Hls.out]
       constructor
       ·rintro ⟨i, x, _, h2, h3⟩; exact ⟨i, x, h2, h3⟩
       ·rintro ⟨i, x, h2, h3⟩
        have : i < ls.length := (List.getElem?_eq_some_iff.1 h2).1
        exact ⟨i, x, by rw [Hnl.out.1] at this; omega, h2, h3⟩
      clear HJ
      obtain ⟨sc, hsc⟩ : ∃ x, secretK p (p.ins k) s = x := ⟨_, rfl⟩
      have Hsc2 : Hid (secretK p (p.ins k) s = sc) := hsc
      have Csec : Hid (∀ w1 : World, More wm w1 → Calls Try.prog 26 #[.agg #[.slice ra p.rl rc, .slice (some ⟨cb, co, none⟩) cl cc], .agg #[.int .i64 op, .int .i64 a, .int .i64 b, .int .i64 ic, .int .i64 n], .slice (some ⟨gs, 0, none⟩) 8 cs] w1 fun e w' => e = .returned (.bool sc) ∧ More w1 w') := fun w1 m => by
       have := secret_calls p ⟨ra, rb, ro, rc, some ⟨cb, co, none⟩, cb, co, cc⟩ k gs cs s w1 (H.out.1.more ((HM0.out.trans HMm.out).trans m)) Hi.out (Hks.out.more m)
       rw [hsc, HI.out] at this
       dsimp only at this
       rw [Hcl.out] at this
       exact this
      clear hsc
      have HB3 : Hid (Blk w3 wm.heap.size #[.int .i64 op, .int .i64 a, .int .i64 b, .int .i64 ic, .int .i64 n] 59) := HB8.out.more HM3.out
      have i0 : w3.cell? ⟨wm.heap.size, 0, none⟩ = some (.int .i64 op) := HB3.out.cell rfl
      have Hrf : Hid (More w3 w3) := More.refl _
      by_cases hop : op = 3 ∨ op = 4
      ·-- a word at an index
       rcases hop with rfl | rfl
       all_goals
        have hI := Hi.out
        unfold InsOk Reg Rgn at hI
        rw [HI.out] at hI
        simp at hI
        obtain rfl : ra = some ⟨rb, ro, none⟩ := H.out.1.hr (by omega)
        obtain ⟨lg, hlg⟩ : ∃ x, p.log ic.toNat = x := ⟨_, rfl⟩
        have Hlg : Hid (∀ w' : World, More wm w' → w'.cell? ⟨rb, ro + ic.toNat * 2, none⟩ = some (.int .i64 lg)) := fun w' m => by
         have := ((H.out.1.more ((HM0.out.trans HMm.out).trans m)).regs ic.toNat (by omega)).1
         rw [hlg] at this; exact this
        obtain ⟨xb, hxb⟩ : ∃ x, s b.toNat = x := ⟨_, rfl⟩
        obtain ⟨v, hv⟩ : ∃ v, Kn.index xb n = v := ⟨_, rfl⟩
        have hnn := H.out.2.2 k Hpk.out
        rw [HI.out] at hnn
        dsimp only at hnn
        have Cix : Hid (∀ w : World, Calls Try.prog 25 #[kn xb.b xb.s, .int .i64 n] w fun e w' => e = .returned (kn v.b v.s) ∧ More w w') := fun w => hv ▸ index_calls xb n hnn.1 hnn.2 w
        have HbK : Hid (boundK p (p.ins k) s = (decide (n < 0) || decide (lg < v.b))) := by
         show _ = _
         unfold boundK; rw [HI.out]; dsimp only
         rw [hxb, hv, hlg]; simp
        have b0 : 0 ≤ b := by omega
        have b1 : b < 8 := by omega
        have ic0 : 0 ≤ ic := by omega
        have ic1 : ic < p.rl := by omega
        have Hxb : Hid (s b.toNat = ⟨xb.b, xb.s⟩) := hxb
        clear hlg hxb hv hI hnn
        obtain ⟨vb, vs⟩ := v
        obtain ⟨xbb, xbs⟩ := xb
        unfold kn at Cix
        dsimp only at Cix HbK Hxb
        obtain ⟨T, HT⟩ : ∃ T : World → Prop, Hid (∀ w', T w' ↔ More w3 w') := ⟨_, fun _ => Iff.rfl⟩
        have HT0 : T w3.drew := (HT.out _).2 (More.refl _).drew
        have hneT : Nonempty { w' // T w' } := ⟨⟨_, HT0⟩⟩
        have HMt : Hid (More wm w3) := HM8.out.trans HM3.out
        have k0 : ∀ i : { w' // T w' }, i.val.cell? ⟨lb, k * 2 + 1, none⟩ = some (.slice (some ⟨gs, 0, none⟩) 8 cs) := fun i => (HMt.out.trans ((HT.out _).1 i.property)).cell c1
        have k1 : ∀ i : { w' // T w' }, i.val.cell? ⟨gs, b.toNat * 2, none⟩ = some (.int .i64 xbb) := fun i => by have := ((Hks.out.more (HMt.out.trans ((HT.out _).1 i.property))) b.toNat (by omega)).1.1; rw [Hxb.out] at this; exact this
        have k2 : ∀ i : { w' // T w' }, i.val.cell? ⟨gs, b.toNat * 2 + 1, none⟩ = some (.bool xbs) := fun i => by have := ((Hks.out.more (HMt.out.trans ((HT.out _).1 i.property))) b.toNat (by omega)).1.2; rw [Hxb.out] at this; exact this
        have k3 : ∀ i : { w' // T w' }, i.val.cell? ⟨wm.heap.size, 2, none⟩ = some (.int .i64 b) := fun i => (HB3.out.more ((HT.out _).1 i.property)).cell rfl
        have k4 : ∀ i : { w' // T w' }, i.val.cell? ⟨wm.heap.size, 4, none⟩ = some (.int .i64 n) := fun i => (HB3.out.more ((HT.out _).1 i.property)).cell rfl
        have k5 : True := trivial
        have k6 : True := trivial
        have k7 : True := trivial
        go_wp2_with (fail)
        clear i0
        refine wp_region_left (S := T) (by kernel_rfl) HT0 ?_
        refine ol_take 0 rfl (by kernel_rfl) HT0 (by kernel_rfl) (fun K hK => ?_); go_simp; refine hK _ _ ?_; clear hK K
        refine ol_take 1 rfl (by kernel_rfl) HT0 (by kernel_rfl) (fun K hK => ?_); go_simp; refine hK _ _ ?_; clear hK K
        refine ol_take 2 rfl (by kernel_rfl) HT0 (by kernel_rfl) (fun K hK => ?_); go_simp; refine hK _ _ ?_; clear hK K
        refine ol_take 3 rfl (by kernel_rfl) HT0 (by kernel_rfl) (fun K hK => ?_); go_simp; refine hK _ _ ?_; clear hK K
        refine ol_take 4 rfl (by kernel_rfl) HT0 (by kernel_rfl) (fun K hK => ?_); go_simp; refine hK _ _ ?_; clear hK K
        refine ol_take 5 rfl (by kernel_rfl) HT0 (by kernel_rfl) (fun K hK => ?_); go_simp; refine hK _ _ ?_; clear hK K
        refine ol_take 6 rfl (by kernel_rfl) HT0 (by kernel_rfl) (fun K hK => ?_); go_simp; refine hK _ _ ?_; clear hK K
        refine ol_take 7 rfl (by kernel_rfl) HT0 (by kernel_rfl) (fun K hK => ?_); go_simp; refine hK _ _ ?_; clear hK K
        refine ol_take 8 rfl (by kernel_rfl) HT0 (by kernel_rfl) (fun K hK => ?_); go_simp; refine hK _ _ ?_; clear hK K
        refine ol_take 9 rfl (by kernel_rfl) HT0 (by kernel_rfl) (fun K hK => ?_); go_simp; refine hK _ _ ?_; clear hK K
        refine ol_take 10 rfl (by kernel_rfl) HT0 (by kernel_rfl) (fun K hK => ?_); go_simp; refine hK _ _ ?_; clear hK K
        refine ol_two 11 12 (by kernel_rfl) ?_ ?_
        ·-- the call, then the new block
         refine ol_step rfl (by kernel_rfl) (fun K hK => ?_); go_simp
         refine (Cix.out _).mono ?_
         rintro e w5 ⟨rfl, m5⟩
         have M5 : Hid (More w3 w5) := (More.refl _).drew.trans m5
         clear m5
         go_simp
         refine hK _ _ ((HT.out _).2 M5.out) ?_; clear hK K
         refine ol_one 12 (by kernel_rfl) ?_
         refine ol_step rfl (by kernel_rfl) (fun K hK => ?_); go_simp
         refine hK _ _ ((HT.out _).2 (M5.out.alloc _ _)) ?_; clear hK K
         refine ol_one 13 (by kernel_rfl) ?_
         refine ol_step rfl (by kernel_rfl) (fun K hK => ?_); go_simp
         obtain ⟨w6, Hw6⟩ : ∃ w6 : World, Hid (w6 = w5.alloc (.cells #[.int .i64 vb, .bool vs] 65)) := ⟨_, rfl⟩
         have HM6 : Hid (More w3 w6) := Hw6.out ▸ M5.out.alloc _ _
         obtain ⟨bx, Hbx⟩ : ∃ bx, Hid (bx = w5.heap.size) := ⟨_, rfl⟩
         have HB6 : Hid (Blk w6 bx #[.int .i64 vb, .bool vs] 65) := Hw6.out ▸ Hbx.out ▸ Blk.last _ _ _
         rw [← Hw6.out, ← Hbx.out]
         refine hK _ _ ((HT.out _).2 HM6.out) ?_; clear hK K
         refine ol_done (by kernel_rfl) ?_
         clear k0 k1 k2 k3 k4 k5 k6 k7 hneT HT0
         -- the block bx, the world w6
         have HMy : Hid (More wm w6) := (HM8.out.trans HM3.out).trans HM6.out
         have HBi : Hid (Blk w6 wm.heap.size #[.int .i64 _, .int .i64 a, .int .i64 b, .int .i64 ic, .int .i64 n] 59) := HB3.out.more HM6.out
         obtain ⟨X, HX⟩ : ∃ X : World → Prop, Hid (∀ w', X w' ↔ More w6 w') := ⟨_, fun _ => Iff.rfl⟩
         have HX0 : X w6.drew := (HX.out _).2 (More.refl _).drew
         have hneX : Nonempty { w' // X w' } := ⟨⟨_, HX0⟩⟩
         have x0 : ∀ i : { w' // X w' }, i.val.cell? ⟨bx, 0, none⟩ = some (.int .i64 vb) := fun i => (HB6.out.more ((HX.out _).1 i.property)).cell rfl
         have x1 : ∀ i : { w' // X w' }, i.val.cell? ⟨wm.heap.size, 4, none⟩ = some (.int .i64 n) := fun i => (HBi.out.more ((HX.out _).1 i.property)).cell rfl
         have x2 : ∀ i : { w' // X w' }, i.val.cell? ⟨wm.heap.size, 3, none⟩ = some (.int .i64 ic) := fun i => (HBi.out.more ((HX.out _).1 i.property)).cell rfl
         have x3 : ∀ i : { w' // X w' }, i.val.cell? ⟨w.heap.size, 0, none⟩ = some (.slice (some ⟨rb, ro, none⟩) p.rl rc) := fun i => (HMy.out.trans ((HX.out _).1 i.property)).cell p0
         have x4 : ∀ i : { w' // X w' }, i.val.cell? ⟨rb, ro + ic.toNat * 2, none⟩ = some (.int .i64 lg) := fun i => Hlg.out _ (HMy.out.trans ((HX.out _).1 i.property))
         have x5 : True := trivial
         go_wp2_with (fail)
         refine wp_region_ord (S := X) [(0, true), (1, true), (2, true), (3, true), (4, true), (5, true), (6, true), (7, true), (8, true), (9, true), (10, true), (11, true), (12, true), (13, true), (14, true), (15, true), (16, true), (17, true), (18, true)] (by kernel_rfl) (by kernel_rfl) (by kernel_rfl) HX0 ?_
         iterate 2 (refine wpOrd_take rfl (by kernel_rfl) (fun K hK => ?_); go_simp; refine hK _ _ ?_; clear hK K)
         cases bb with
         | true =>
          iterate 3 (refine wpOrd_pass rfl HX0 (by kernel_rfl) (fun K hK => ?_); go_simp; refine hK _ _ ?_; clear hK K)
          refine wpOrd_pickT rfl rfl (by kernel_rfl) rfl (fun K hK => ?_); go_simp; refine hK _ _ ?_; clear hK K
          (refine wpOrd_take rfl (by kernel_rfl) (fun K hK => ?_); go_simp; refine hK _ _ ?_; clear hK K)
          iterate 10 (refine wpOrd_pass rfl HX0 (by kernel_rfl) (fun K hK => ?_); go_simp; refine hK _ _ ?_; clear hK K)
          refine wpOrd_pickT rfl rfl (by kernel_rfl) rfl (fun K hK => ?_); go_simp; refine hK _ _ ?_; clear hK K
          (refine wpOrd_take rfl (by kernel_rfl) (fun K hK => ?_); go_simp; refine hK _ _ ?_; clear hK K)
          have Hck : Hid (checkK p L = (4, (k : Int))) := by
           show _ = _
           have hf : faultK p k s = 4 := by unfold faultK; rw [← HO.out]; rfl
           rw [Hn2.out, hf]; rfl
          refine wpOrd_done ?_
          clear x0 x1 x2 x3 x4 x5 hneX HX0
          have HMz : Hid (More W0 w6.drew) := (((HMm.out.trans HM8.out).trans HM3.out).trans HM6.out).drew
          have t0 : w6.cell? ⟨w.heap.size + 1, 0, none⟩ = some (.int .i64 0) := (HRES.out.more (((HMm.out.trans HM8.out).trans HM3.out).trans HM6.out)).cell rfl
          have t1 : w6.cell? ⟨w.heap.size + 1, 1, none⟩ = some (.int .i64 0) := (HRES.out.more (((HMm.out.trans HM8.out).trans HM3.out).trans HM6.out)).cell rfl
          have u0 : w6.frozen? ⟨w.heap.size + 1, 0, none⟩ = false := (HRES.out.more (((HMm.out.trans HM8.out).trans HM3.out).trans HM6.out)).frozen 0
          have u1 : w6.frozen? ⟨w.heap.size + 1, 1, none⟩ = false := (HRES.out.more (((HMm.out.trans HM8.out).trans HM3.out).trans HM6.out)).frozen 1
          go_wp2
          refine bodyPost_ret (v := flt 4 k) (by simp [flt, results, Try.results7, go_sem, *]) rfl ?_
          have hE := HP.out L HV2.out.2 _ (((HM0.out.trans (((HMm.out.trans HM8.out).trans HM3.out).trans HM6.out)).setCell (a := ⟨w.heap.size + 1, 0, none⟩) (by dsimp only; omega) (.int .i64 4)).setCell (a := ⟨w.heap.size + 1, 1, none⟩) (by dsimp only; omega) (.int .i64 k)).drew
          rw [Hck.out] at hE
          exact hE
         | false =>
          by_cases hn0 : n < 0
          ·have hdn : decide (n < 0) = true := by simp [hn0]
           have Hbd : Hid (boundK p (p.ins k) s = true) := by show _ = _; rw [HbK.out, hdn]; rfl
           iterate 3 (refine wpOrd_take rfl (by kernel_rfl) (fun K hK => ?_); go_simp; refine hK _ _ ?_; clear hK K)
           refine wpOrd_pickF rfl rfl (by kernel_rfl) rfl (fun K hK => ?_); go_simp; refine hK _ _ ?_; clear hK K
           (refine wpOrd_take rfl (by kernel_rfl) (fun K hK => ?_); go_simp; refine hK _ _ ?_; clear hK K)
           iterate 10 (refine wpOrd_pass rfl HX0 (by kernel_rfl) (fun K hK => ?_); go_simp; refine hK _ _ ?_; clear hK K)
           refine wpOrd_pickT rfl rfl (by kernel_rfl) rfl (fun K hK => ?_); go_simp; refine hK _ _ ?_; clear hK K
           (refine wpOrd_take rfl (by kernel_rfl) (fun K hK => ?_); go_simp; refine hK _ _ ?_; clear hK K)
           have Hck : Hid (checkK p L = (4, (k : Int))) := by
            show _ = _
            have hf : faultK p k s = 4 := by unfold faultK; rw [Hbd.out, Bool.or_true]; rfl
            rw [Hn2.out, hf]; rfl
           refine wpOrd_done ?_
           clear x0 x1 x2 x3 x4 x5 hneX HX0
           have HMz : Hid (More W0 w6.drew) := (((HMm.out.trans HM8.out).trans HM3.out).trans HM6.out).drew
           have t0 : w6.cell? ⟨w.heap.size + 1, 0, none⟩ = some (.int .i64 0) := (HRES.out.more (((HMm.out.trans HM8.out).trans HM3.out).trans HM6.out)).cell rfl
           have t1 : w6.cell? ⟨w.heap.size + 1, 1, none⟩ = some (.int .i64 0) := (HRES.out.more (((HMm.out.trans HM8.out).trans HM3.out).trans HM6.out)).cell rfl
           have u0 : w6.frozen? ⟨w.heap.size + 1, 0, none⟩ = false := (HRES.out.more (((HMm.out.trans HM8.out).trans HM3.out).trans HM6.out)).frozen 0
           have u1 : w6.frozen? ⟨w.heap.size + 1, 1, none⟩ = false := (HRES.out.more (((HMm.out.trans HM8.out).trans HM3.out).trans HM6.out)).frozen 1
           go_wp2
           refine bodyPost_ret (v := flt 4 k) (by simp [flt, results, Try.results7, go_sem, *]) rfl ?_
           have hE := HP.out L HV2.out.2 _ (((HM0.out.trans (((HMm.out.trans HM8.out).trans HM3.out).trans HM6.out)).setCell (a := ⟨w.heap.size + 1, 0, none⟩) (by dsimp only; omega) (.int .i64 4)).setCell (a := ⟨w.heap.size + 1, 1, none⟩) (by dsimp only; omega) (.int .i64 k)).drew
           rw [Hck.out] at hE
           exact hE
          ·have hdn : decide (n < 0) = false := by simp [hn0]
           iterate 3 (refine wpOrd_take rfl (by kernel_rfl) (fun K hK => ?_); go_simp; refine hK _ _ ?_; clear hK K)
           refine wpOrd_pickF rfl rfl (by kernel_rfl) rfl (fun K hK => ?_); go_simp; refine hK _ _ ?_; clear hK K
           iterate 11 (refine wpOrd_take rfl (by kernel_rfl) (fun K hK => ?_); go_simp; refine hK _ _ ?_; clear hK K)
           refine wpOrd_pickF rfl rfl (by kernel_rfl) rfl (fun K hK => ?_); go_simp; refine hK _ _ ?_; clear hK K
           (refine wpOrd_take rfl (by kernel_rfl) (fun K hK => ?_); go_simp; refine hK _ _ ?_; clear hK K)
           by_cases hlv : lg < vb
           ·have Hbd : Hid (boundK p (p.ins k) s = true) := by show _ = _; rw [HbK.out, hdn, decide_eq_true hlv]; rfl
            have Hck : Hid (checkK p L = (4, (k : Int))) := by
             show _ = _
             have hf : faultK p k s = 4 := by unfold faultK; rw [Hbd.out, Bool.or_true]; rfl
             rw [Hn2.out, hf]; rfl
            refine wpOrd_done ?_
            clear x0 x1 x2 x3 x4 x5 hneX HX0
            have HMz : Hid (More W0 w6.drew) := (((HMm.out.trans HM8.out).trans HM3.out).trans HM6.out).drew
            have t0 : w6.cell? ⟨w.heap.size + 1, 0, none⟩ = some (.int .i64 0) := (HRES.out.more (((HMm.out.trans HM8.out).trans HM3.out).trans HM6.out)).cell rfl
            have t1 : w6.cell? ⟨w.heap.size + 1, 1, none⟩ = some (.int .i64 0) := (HRES.out.more (((HMm.out.trans HM8.out).trans HM3.out).trans HM6.out)).cell rfl
            have u0 : w6.frozen? ⟨w.heap.size + 1, 0, none⟩ = false := (HRES.out.more (((HMm.out.trans HM8.out).trans HM3.out).trans HM6.out)).frozen 0
            have u1 : w6.frozen? ⟨w.heap.size + 1, 1, none⟩ = false := (HRES.out.more (((HMm.out.trans HM8.out).trans HM3.out).trans HM6.out)).frozen 1
            go_wp2
            refine bodyPost_ret (v := flt 4 k) (by simp [flt, results, Try.results7, go_sem, *]) rfl ?_
            have hE := HP.out L HV2.out.2 _ (((HM0.out.trans (((HMm.out.trans HM8.out).trans HM3.out).trans HM6.out)).setCell (a := ⟨w.heap.size + 1, 0, none⟩) (by dsimp only; omega) (.int .i64 4)).setCell (a := ⟨w.heap.size + 1, 1, none⟩) (by dsimp only; omega) (.int .i64 k)).drew
            rw [Hck.out] at hE
            exact hE
           ·have hdl : decide (lg < vb) = false := by simp [hlv]
            have Hno : Hid ((outK p k || boundK p (p.ins k) s) = false) := by show _ = _; rw [← HO.out, HbK.out, hdn, hdl]; rfl
            refine wpOrd_done ?_
            clear x0 x1 x2 x3 x4 x5 hneX HX0
            have HMd : Hid (More w3 w6.drew) := HM6.out.drew
            obtain ⟨w7, Hw7⟩ : ∃ w7 : World, Hid (w7 = w6.drew) := ⟨_, rfl⟩
            have HMe : Hid (More w3 w7) := Hw7.out ▸ HMd.out
            rw [← Hw7.out]
            have HMx : Hid (More wm w7) := (HM8.out.trans HM3.out).trans HMe.out
            have HBx : Hid (Blk w7 wm.heap.size #[.int .i64 _, .int .i64 a, .int .i64 b, .int .i64 ic, .int .i64 n] 59) := (HB8.out.more HM3.out).more HMe.out
            obtain ⟨U, HU⟩ : ∃ U : World → Prop, Hid (∀ w', U w' ↔ More w7 w') := ⟨_, fun _ => Iff.rfl⟩
            have HU0 : U w7.drew := (HU.out _).2 (More.refl _).drew
            have hneU : Nonempty { w' // U w' } := ⟨⟨_, HU0⟩⟩
            have g0 : ∀ i : { w' // U w' }, i.val.cell? ⟨w.heap.size, 0, none⟩ = some (.slice (some ⟨rb, ro, none⟩) p.rl rc) := fun i => (HMx.out.trans ((HU.out _).1 i.property)).cell p0
            have g1 : ∀ i : { w' // U w' }, i.val.cell? ⟨w.heap.size, 1, none⟩ = some (.slice (some ⟨cb, co, none⟩) cl cc) := fun i => (HMx.out.trans ((HU.out _).1 i.property)).cell p1
            have g2 : ∀ i : { w' // U w' }, i.val.cell? ⟨lb, k * 2 + 1, none⟩ = some (.slice (some ⟨gs, 0, none⟩) 8 cs) := fun i => (HMx.out.trans ((HU.out _).1 i.property)).cell c1
            have g3 : ∀ i : { w' // U w' }, i.val.cell? ⟨wm.heap.size, 0, none⟩ = some (.int .i64 _) := fun i => (HBx.out.more ((HU.out _).1 i.property)).cell rfl
            have g4 : ∀ i : { w' // U w' }, i.val.cell? ⟨wm.heap.size, 1, none⟩ = some (.int .i64 a) := fun i => (HBx.out.more ((HU.out _).1 i.property)).cell rfl
            have g5 : ∀ i : { w' // U w' }, i.val.cell? ⟨wm.heap.size, 2, none⟩ = some (.int .i64 b) := fun i => (HBx.out.more ((HU.out _).1 i.property)).cell rfl
            have g6 : ∀ i : { w' // U w' }, i.val.cell? ⟨wm.heap.size, 3, none⟩ = some (.int .i64 ic) := fun i => (HBx.out.more ((HU.out _).1 i.property)).cell rfl
            have g7 : ∀ i : { w' // U w' }, i.val.cell? ⟨wm.heap.size, 4, none⟩ = some (.int .i64 n) := fun i => (HBx.out.more ((HU.out _).1 i.property)).cell rfl
            go_wp2_with (fail)
            refine wp_region_ord (S := U) [(0, true), (1, true), (2, true), (3, true), (4, true), (5, true), (6, true), (7, false)] (by kernel_rfl) (by kernel_rfl) (by kernel_rfl) HU0 ?_
            iterate 7 (refine wpOrd_take rfl (by kernel_rfl) (fun K hK => ?_); go_simp; refine hK _ _ ?_; clear hK K)
            refine wpOrd_busy rfl (by kernel_rfl) (fun K hK => ?_); go_simp
            refine (Csec.out _ (HMx.out.drew)).mono ?_
            rintro e w9 ⟨rfl, m9⟩
            have HM9 : Hid (More w7 w9) := (More.refl _).drew.trans m9
            have HU9 : U w9 := (HU.out _).2 HM9.out
            clear m9
            cases sc with
            | true =>
             have Hck : Hid (checkK p L = (5, (k : Int))) := by
              show _ = _
              have hf : faultK p k s = 5 := by unfold faultK; rw [Hno.out, Hsc2.out]; rfl
              rw [Hn2.out, hf]; rfl
             go_simp
             refine hK _ _ HU9 ?_; clear hK K
             refine wpOrd_done ?_
             clear g0 g1 g2 g3 g4 g5 g6 g7 hneU HU0 HU9
             have t0 := (HRES.out.more ((HMm.out.trans HMx.out).trans HM9.out)).cell (j := 0) (v := .int .i64 0) rfl
             have t1 := (HRES.out.more ((HMm.out.trans HMx.out).trans HM9.out)).cell (j := 1) (v := .int .i64 0) rfl
             have u0 := (HRES.out.more ((HMm.out.trans HMx.out).trans HM9.out)).frozen 0
             have u1 := (HRES.out.more ((HMm.out.trans HMx.out).trans HM9.out)).frozen 1
             go_wp2
             refine bodyPost_ret (v := flt 5 k) (by simp [flt, results, Try.results7, go_sem, *]) rfl ?_
             have hE := HP.out L HV2.out.2 _ (((HM0.out.trans ((HMm.out.trans HMx.out).trans HM9.out)).setCell (a := ⟨w.heap.size + 1, 0, none⟩) (by dsimp only; omega) (.int .i64 5)).setCell (a := ⟨w.heap.size + 1, 1, none⟩) (by dsimp only; omega) (.int .i64 k))
             rw [Hck.out] at hE
             exact hE
            | false =>
             have Hck : Hid (checkK p L = scanK p L g (k + 1)) := by
              show _ = _
              have hf : faultK p k s = 0 := by unfold faultK; rw [Hno.out, Hsc2.out]; rfl
              rw [Hn2.out, if_pos hf]
             go_simp
             refine hK _ _ HU9 ?_; clear hK K
             refine wpOrd_done ?_
             clear g0 g1 g2 g3 g4 g5 g6 g7 hneU HU0 HU9
             go_wp2
             go_roundg g
             case measure => omega
             case rel => exact ⟨k + 1, by omega, by first | rfl | simp, (HMw.out.trans HMx.out).trans HM9.out, Hck.out⟩
        ·-- the new block, then the call
         refine ol_step rfl (by kernel_rfl) (fun K hK => ?_); go_simp
         refine hK _ _ ((HT.out _).2 ((More.refl _).drew.alloc _ _)) ?_; clear hK K
         refine ol_one 11 (by kernel_rfl) ?_
         refine ol_step rfl (by kernel_rfl) (fun K hK => ?_); go_simp
         refine (Cix.out _).mono ?_
         rintro e w5 ⟨rfl, m5⟩
         have M5 : Hid (More w3 w5) := ((More.refl _).drew.alloc _ _).trans m5
         have HB5 : Hid (Blk w5 w3.heap.size #[.int .i64 0, .bool false] 65) := (Blk.last w3.drew _ _).more m5
         clear m5
         go_simp
         refine hK _ _ ((HT.out _).2 M5.out) ?_; clear hK K
         refine ol_one 13 (by kernel_rfl) ?_
         have y0 := HB5.out.cell (j := 0) (v := .int .i64 0) rfl
         have y1 := HB5.out.cell (j := 1) (v := .bool false) rfl
         have y2 := HB5.out.frozen 0
         have y3 := HB5.out.frozen 1
         refine ol_step rfl (by kernel_rfl) (fun K hK => ?_); go_simp
         obtain ⟨w6, Hw6⟩ : ∃ w6 : World, Hid (w6 = (w5.setCell ⟨w3.heap.size, 0, none⟩ (.int .i64 vb)).setCell ⟨w3.heap.size, 1, none⟩ (.bool vs)) := ⟨_, rfl⟩
         have HM6 : Hid (More w3 w6) := Hw6.out ▸ (M5.out.setCell (Nat.le_refl _) _).setCell (Nat.le_refl _) _
         obtain ⟨bx, Hbx⟩ : ∃ bx, Hid (bx = w3.heap.size) := ⟨_, rfl⟩
         have HB6 : Hid (Blk w6 bx #[.int .i64 vb, .bool vs] 65) := by
          show Blk _ _ _ _
          rw [Hw6.out, Hbx.out]
          have h1 := HB5.out
          unfold Blk at h1 ⊢
          simp [World.setCell, Array.getElem?_modify, h1]
         rw [← Hw6.out]
         simp only [← Hbx.out]
         clear y0 y1 y2 y3
         refine hK _ _ ((HT.out _).2 HM6.out) ?_; clear hK K
         refine ol_done (by kernel_rfl) ?_
         clear k0 k1 k2 k3 k4 k5 k6 k7 hneT HT0
         -- the block bx, the world w6
         have HMy : Hid (More wm w6) := (HM8.out.trans HM3.out).trans HM6.out
         have HBi : Hid (Blk w6 wm.heap.size #[.int .i64 _, .int .i64 a, .int .i64 b, .int .i64 ic, .int .i64 n] 59) := HB3.out.more HM6.out
         obtain ⟨X, HX⟩ : ∃ X : World → Prop, Hid (∀ w', X w' ↔ More w6 w') := ⟨_, fun _ => Iff.rfl⟩
         have HX0 : X w6.drew := (HX.out _).2 (More.refl _).drew
         have hneX : Nonempty { w' // X w' } := ⟨⟨_, HX0⟩⟩
         have x0 : ∀ i : { w' // X w' }, i.val.cell? ⟨bx, 0, none⟩ = some (.int .i64 vb) := fun i => (HB6.out.more ((HX.out _).1 i.property)).cell rfl
         have x1 : ∀ i : { w' // X w' }, i.val.cell? ⟨wm.heap.size, 4, none⟩ = some (.int .i64 n) := fun i => (HBi.out.more ((HX.out _).1 i.property)).cell rfl
         have x2 : ∀ i : { w' // X w' }, i.val.cell? ⟨wm.heap.size, 3, none⟩ = some (.int .i64 ic) := fun i => (HBi.out.more ((HX.out _).1 i.property)).cell rfl
         have x3 : ∀ i : { w' // X w' }, i.val.cell? ⟨w.heap.size, 0, none⟩ = some (.slice (some ⟨rb, ro, none⟩) p.rl rc) := fun i => (HMy.out.trans ((HX.out _).1 i.property)).cell p0
         have x4 : ∀ i : { w' // X w' }, i.val.cell? ⟨rb, ro + ic.toNat * 2, none⟩ = some (.int .i64 lg) := fun i => Hlg.out _ (HMy.out.trans ((HX.out _).1 i.property))
         have x5 : True := trivial
         go_wp2_with (fail)
         refine wp_region_ord (S := X) [(0, true), (1, true), (2, true), (3, true), (4, true), (5, true), (6, true), (7, true), (8, true), (9, true), (10, true), (11, true), (12, true), (13, true), (14, true), (15, true), (16, true), (17, true), (18, true)] (by kernel_rfl) (by kernel_rfl) (by kernel_rfl) HX0 ?_
         iterate 2 (refine wpOrd_take rfl (by kernel_rfl) (fun K hK => ?_); go_simp; refine hK _ _ ?_; clear hK K)
         cases bb with
         | true =>
          iterate 3 (refine wpOrd_pass rfl HX0 (by kernel_rfl) (fun K hK => ?_); go_simp; refine hK _ _ ?_; clear hK K)
          refine wpOrd_pickT rfl rfl (by kernel_rfl) rfl (fun K hK => ?_); go_simp; refine hK _ _ ?_; clear hK K
          (refine wpOrd_take rfl (by kernel_rfl) (fun K hK => ?_); go_simp; refine hK _ _ ?_; clear hK K)
          iterate 10 (refine wpOrd_pass rfl HX0 (by kernel_rfl) (fun K hK => ?_); go_simp; refine hK _ _ ?_; clear hK K)
          refine wpOrd_pickT rfl rfl (by kernel_rfl) rfl (fun K hK => ?_); go_simp; refine hK _ _ ?_; clear hK K
          (refine wpOrd_take rfl (by kernel_rfl) (fun K hK => ?_); go_simp; refine hK _ _ ?_; clear hK K)
          have Hck : Hid (checkK p L = (4, (k : Int))) := by
           show _ = _
           have hf : faultK p k s = 4 := by unfold faultK; rw [← HO.out]; rfl
           rw [Hn2.out, hf]; rfl
          refine wpOrd_done ?_
          clear x0 x1 x2 x3 x4 x5 hneX HX0
          have HMz : Hid (More W0 w6.drew) := (((HMm.out.trans HM8.out).trans HM3.out).trans HM6.out).drew
          have t0 : w6.cell? ⟨w.heap.size + 1, 0, none⟩ = some (.int .i64 0) := (HRES.out.more (((HMm.out.trans HM8.out).trans HM3.out).trans HM6.out)).cell rfl
          have t1 : w6.cell? ⟨w.heap.size + 1, 1, none⟩ = some (.int .i64 0) := (HRES.out.more (((HMm.out.trans HM8.out).trans HM3.out).trans HM6.out)).cell rfl
          have u0 : w6.frozen? ⟨w.heap.size + 1, 0, none⟩ = false := (HRES.out.more (((HMm.out.trans HM8.out).trans HM3.out).trans HM6.out)).frozen 0
          have u1 : w6.frozen? ⟨w.heap.size + 1, 1, none⟩ = false := (HRES.out.more (((HMm.out.trans HM8.out).trans HM3.out).trans HM6.out)).frozen 1
          go_wp2
          refine bodyPost_ret (v := flt 4 k) (by simp [flt, results, Try.results7, go_sem, *]) rfl ?_
          have hE := HP.out L HV2.out.2 _ (((HM0.out.trans (((HMm.out.trans HM8.out).trans HM3.out).trans HM6.out)).setCell (a := ⟨w.heap.size + 1, 0, none⟩) (by dsimp only; omega) (.int .i64 4)).setCell (a := ⟨w.heap.size + 1, 1, none⟩) (by dsimp only; omega) (.int .i64 k)).drew
          rw [Hck.out] at hE
          exact hE
         | false =>
          by_cases hn0 : n < 0
          ·have hdn : decide (n < 0) = true := by simp [hn0]
           have Hbd : Hid (boundK p (p.ins k) s = true) := by show _ = _; rw [HbK.out, hdn]; rfl
           iterate 3 (refine wpOrd_take rfl (by kernel_rfl) (fun K hK => ?_); go_simp; refine hK _ _ ?_; clear hK K)
           refine wpOrd_pickF rfl rfl (by kernel_rfl) rfl (fun K hK => ?_); go_simp; refine hK _ _ ?_; clear hK K
           (refine wpOrd_take rfl (by kernel_rfl) (fun K hK => ?_); go_simp; refine hK _ _ ?_; clear hK K)
           iterate 10 (refine wpOrd_pass rfl HX0 (by kernel_rfl) (fun K hK => ?_); go_simp; refine hK _ _ ?_; clear hK K)
           refine wpOrd_pickT rfl rfl (by kernel_rfl) rfl (fun K hK => ?_); go_simp; refine hK _ _ ?_; clear hK K
           (refine wpOrd_take rfl (by kernel_rfl) (fun K hK => ?_); go_simp; refine hK _ _ ?_; clear hK K)
           have Hck : Hid (checkK p L = (4, (k : Int))) := by
            show _ = _
            have hf : faultK p k s = 4 := by unfold faultK; rw [Hbd.out, Bool.or_true]; rfl
            rw [Hn2.out, hf]; rfl
           refine wpOrd_done ?_
           clear x0 x1 x2 x3 x4 x5 hneX HX0
           have HMz : Hid (More W0 w6.drew) := (((HMm.out.trans HM8.out).trans HM3.out).trans HM6.out).drew
           have t0 : w6.cell? ⟨w.heap.size + 1, 0, none⟩ = some (.int .i64 0) := (HRES.out.more (((HMm.out.trans HM8.out).trans HM3.out).trans HM6.out)).cell rfl
           have t1 : w6.cell? ⟨w.heap.size + 1, 1, none⟩ = some (.int .i64 0) := (HRES.out.more (((HMm.out.trans HM8.out).trans HM3.out).trans HM6.out)).cell rfl
           have u0 : w6.frozen? ⟨w.heap.size + 1, 0, none⟩ = false := (HRES.out.more (((HMm.out.trans HM8.out).trans HM3.out).trans HM6.out)).frozen 0
           have u1 : w6.frozen? ⟨w.heap.size + 1, 1, none⟩ = false := (HRES.out.more (((HMm.out.trans HM8.out).trans HM3.out).trans HM6.out)).frozen 1
           go_wp2
           refine bodyPost_ret (v := flt 4 k) (by simp [flt, results, Try.results7, go_sem, *]) rfl ?_
           have hE := HP.out L HV2.out.2 _ (((HM0.out.trans (((HMm.out.trans HM8.out).trans HM3.out).trans HM6.out)).setCell (a := ⟨w.heap.size + 1, 0, none⟩) (by dsimp only; omega) (.int .i64 4)).setCell (a := ⟨w.heap.size + 1, 1, none⟩) (by dsimp only; omega) (.int .i64 k)).drew
           rw [Hck.out] at hE
           exact hE
          ·have hdn : decide (n < 0) = false := by simp [hn0]
           iterate 3 (refine wpOrd_take rfl (by kernel_rfl) (fun K hK => ?_); go_simp; refine hK _ _ ?_; clear hK K)
           refine wpOrd_pickF rfl rfl (by kernel_rfl) rfl (fun K hK => ?_); go_simp; refine hK _ _ ?_; clear hK K
           iterate 11 (refine wpOrd_take rfl (by kernel_rfl) (fun K hK => ?_); go_simp; refine hK _ _ ?_; clear hK K)
           refine wpOrd_pickF rfl rfl (by kernel_rfl) rfl (fun K hK => ?_); go_simp; refine hK _ _ ?_; clear hK K
           (refine wpOrd_take rfl (by kernel_rfl) (fun K hK => ?_); go_simp; refine hK _ _ ?_; clear hK K)
           by_cases hlv : lg < vb
           ·have Hbd : Hid (boundK p (p.ins k) s = true) := by show _ = _; rw [HbK.out, hdn, decide_eq_true hlv]; rfl
            have Hck : Hid (checkK p L = (4, (k : Int))) := by
             show _ = _
             have hf : faultK p k s = 4 := by unfold faultK; rw [Hbd.out, Bool.or_true]; rfl
             rw [Hn2.out, hf]; rfl
            refine wpOrd_done ?_
            clear x0 x1 x2 x3 x4 x5 hneX HX0
            have HMz : Hid (More W0 w6.drew) := (((HMm.out.trans HM8.out).trans HM3.out).trans HM6.out).drew
            have t0 : w6.cell? ⟨w.heap.size + 1, 0, none⟩ = some (.int .i64 0) := (HRES.out.more (((HMm.out.trans HM8.out).trans HM3.out).trans HM6.out)).cell rfl
            have t1 : w6.cell? ⟨w.heap.size + 1, 1, none⟩ = some (.int .i64 0) := (HRES.out.more (((HMm.out.trans HM8.out).trans HM3.out).trans HM6.out)).cell rfl
            have u0 : w6.frozen? ⟨w.heap.size + 1, 0, none⟩ = false := (HRES.out.more (((HMm.out.trans HM8.out).trans HM3.out).trans HM6.out)).frozen 0
            have u1 : w6.frozen? ⟨w.heap.size + 1, 1, none⟩ = false := (HRES.out.more (((HMm.out.trans HM8.out).trans HM3.out).trans HM6.out)).frozen 1
            go_wp2
            refine bodyPost_ret (v := flt 4 k) (by simp [flt, results, Try.results7, go_sem, *]) rfl ?_
            have hE := HP.out L HV2.out.2 _ (((HM0.out.trans (((HMm.out.trans HM8.out).trans HM3.out).trans HM6.out)).setCell (a := ⟨w.heap.size + 1, 0, none⟩) (by dsimp only; omega) (.int .i64 4)).setCell (a := ⟨w.heap.size + 1, 1, none⟩) (by dsimp only; omega) (.int .i64 k)).drew
            rw [Hck.out] at hE
            exact hE
           ·have hdl : decide (lg < vb) = false := by simp [hlv]
            have Hno : Hid ((outK p k || boundK p (p.ins k) s) = false) := by show _ = _; rw [← HO.out, HbK.out, hdn, hdl]; rfl
            refine wpOrd_done ?_
            clear x0 x1 x2 x3 x4 x5 hneX HX0
            have HMd : Hid (More w3 w6.drew) := HM6.out.drew
            obtain ⟨w7, Hw7⟩ : ∃ w7 : World, Hid (w7 = w6.drew) := ⟨_, rfl⟩
            have HMe : Hid (More w3 w7) := Hw7.out ▸ HMd.out
            rw [← Hw7.out]
            have HMx : Hid (More wm w7) := (HM8.out.trans HM3.out).trans HMe.out
            have HBx : Hid (Blk w7 wm.heap.size #[.int .i64 _, .int .i64 a, .int .i64 b, .int .i64 ic, .int .i64 n] 59) := (HB8.out.more HM3.out).more HMe.out
            obtain ⟨U, HU⟩ : ∃ U : World → Prop, Hid (∀ w', U w' ↔ More w7 w') := ⟨_, fun _ => Iff.rfl⟩
            have HU0 : U w7.drew := (HU.out _).2 (More.refl _).drew
            have hneU : Nonempty { w' // U w' } := ⟨⟨_, HU0⟩⟩
            have g0 : ∀ i : { w' // U w' }, i.val.cell? ⟨w.heap.size, 0, none⟩ = some (.slice (some ⟨rb, ro, none⟩) p.rl rc) := fun i => (HMx.out.trans ((HU.out _).1 i.property)).cell p0
            have g1 : ∀ i : { w' // U w' }, i.val.cell? ⟨w.heap.size, 1, none⟩ = some (.slice (some ⟨cb, co, none⟩) cl cc) := fun i => (HMx.out.trans ((HU.out _).1 i.property)).cell p1
            have g2 : ∀ i : { w' // U w' }, i.val.cell? ⟨lb, k * 2 + 1, none⟩ = some (.slice (some ⟨gs, 0, none⟩) 8 cs) := fun i => (HMx.out.trans ((HU.out _).1 i.property)).cell c1
            have g3 : ∀ i : { w' // U w' }, i.val.cell? ⟨wm.heap.size, 0, none⟩ = some (.int .i64 _) := fun i => (HBx.out.more ((HU.out _).1 i.property)).cell rfl
            have g4 : ∀ i : { w' // U w' }, i.val.cell? ⟨wm.heap.size, 1, none⟩ = some (.int .i64 a) := fun i => (HBx.out.more ((HU.out _).1 i.property)).cell rfl
            have g5 : ∀ i : { w' // U w' }, i.val.cell? ⟨wm.heap.size, 2, none⟩ = some (.int .i64 b) := fun i => (HBx.out.more ((HU.out _).1 i.property)).cell rfl
            have g6 : ∀ i : { w' // U w' }, i.val.cell? ⟨wm.heap.size, 3, none⟩ = some (.int .i64 ic) := fun i => (HBx.out.more ((HU.out _).1 i.property)).cell rfl
            have g7 : ∀ i : { w' // U w' }, i.val.cell? ⟨wm.heap.size, 4, none⟩ = some (.int .i64 n) := fun i => (HBx.out.more ((HU.out _).1 i.property)).cell rfl
            go_wp2_with (fail)
            refine wp_region_ord (S := U) [(0, true), (1, true), (2, true), (3, true), (4, true), (5, true), (6, true), (7, false)] (by kernel_rfl) (by kernel_rfl) (by kernel_rfl) HU0 ?_
            iterate 7 (refine wpOrd_take rfl (by kernel_rfl) (fun K hK => ?_); go_simp; refine hK _ _ ?_; clear hK K)
            refine wpOrd_busy rfl (by kernel_rfl) (fun K hK => ?_); go_simp
            refine (Csec.out _ (HMx.out.drew)).mono ?_
            rintro e w9 ⟨rfl, m9⟩
            have HM9 : Hid (More w7 w9) := (More.refl _).drew.trans m9
            have HU9 : U w9 := (HU.out _).2 HM9.out
            clear m9
            cases sc with
            | true =>
             have Hck : Hid (checkK p L = (5, (k : Int))) := by
              show _ = _
              have hf : faultK p k s = 5 := by unfold faultK; rw [Hno.out, Hsc2.out]; rfl
              rw [Hn2.out, hf]; rfl
             go_simp
             refine hK _ _ HU9 ?_; clear hK K
             refine wpOrd_done ?_
             clear g0 g1 g2 g3 g4 g5 g6 g7 hneU HU0 HU9
             have t0 := (HRES.out.more ((HMm.out.trans HMx.out).trans HM9.out)).cell (j := 0) (v := .int .i64 0) rfl
             have t1 := (HRES.out.more ((HMm.out.trans HMx.out).trans HM9.out)).cell (j := 1) (v := .int .i64 0) rfl
             have u0 := (HRES.out.more ((HMm.out.trans HMx.out).trans HM9.out)).frozen 0
             have u1 := (HRES.out.more ((HMm.out.trans HMx.out).trans HM9.out)).frozen 1
             go_wp2
             refine bodyPost_ret (v := flt 5 k) (by simp [flt, results, Try.results7, go_sem, *]) rfl ?_
             have hE := HP.out L HV2.out.2 _ (((HM0.out.trans ((HMm.out.trans HMx.out).trans HM9.out)).setCell (a := ⟨w.heap.size + 1, 0, none⟩) (by dsimp only; omega) (.int .i64 5)).setCell (a := ⟨w.heap.size + 1, 1, none⟩) (by dsimp only; omega) (.int .i64 k))
             rw [Hck.out] at hE
             exact hE
            | false =>
             have Hck : Hid (checkK p L = scanK p L g (k + 1)) := by
              show _ = _
              have hf : faultK p k s = 0 := by unfold faultK; rw [Hno.out, Hsc2.out]; rfl
              rw [Hn2.out, if_pos hf]
             go_simp
             refine hK _ _ HU9 ?_; clear hK K
             refine wpOrd_done ?_
             clear g0 g1 g2 g3 g4 g5 g6 g7 hneU HU0 HU9
             go_wp2
             go_roundg g
             case measure => omega
             case rel => exact ⟨k + 1, by omega, by first | rfl | simp, (HMw.out.trans HMx.out).trans HM9.out, Hck.out⟩
      ·have e3 : (op == 3) = false := by simp; omega
       have e4 : (op == 4) = false := by simp; omega
       have Hbd : Hid (boundK p (p.ins k) s = false) := by
        show _ = _
        unfold boundK; rw [HI.out]; dsimp only
        simp; omega
       clear hop
       cases bb with
       | true =>
        have Hck : Hid (checkK p L = (4, (k : Int))) := by
         show _ = _
         have hf : faultK p k s = 4 := by unfold faultK; rw [← HO.out]; rfl
         rw [Hn2.out, hf]; rfl
        have t0 := (HRES.out.more ((HMm.out.trans HM8.out).trans HM3.out)).cell (j := 0) (v := .int .i64 0) rfl
        have t1 := (HRES.out.more ((HMm.out.trans HM8.out).trans HM3.out)).cell (j := 1) (v := .int .i64 0) rfl
        have u0 := (HRES.out.more ((HMm.out.trans HM8.out).trans HM3.out)).frozen 0
        have u1 := (HRES.out.more ((HMm.out.trans HM8.out).trans HM3.out)).frozen 1
        go_wp2
        refine bodyPost_ret (v := flt 4 k) (by simp [flt, results, Try.results7, go_sem, *]) rfl ?_
        have hE := HP.out L HV2.out.2 _ (((HM0.out.trans ((HMm.out.trans HM8.out).trans HM3.out)).setCell (a := ⟨w.heap.size + 1, 0, none⟩) (by dsimp only; omega) (.int .i64 4)).setCell (a := ⟨w.heap.size + 1, 1, none⟩) (by dsimp only; omega) (.int .i64 k))
        rw [Hck.out] at hE
        exact hE
       | false =>
        have Hno : Hid ((outK p k || boundK p (p.ins k) s) = false) := by show _ = _; rw [← HO.out, Hbd.out]; rfl
        have HMx : Hid (More wm w3) := (HM8.out.trans HM3.out).trans Hrf.out
        have HBx : Hid (Blk w3 wm.heap.size #[.int .i64 op, .int .i64 a, .int .i64 b, .int .i64 ic, .int .i64 n] 59) := (HB8.out.more HM3.out).more Hrf.out
        obtain ⟨U, HU⟩ : ∃ U : World → Prop, Hid (∀ w', U w' ↔ More w3 w') := ⟨_, fun _ => Iff.rfl⟩
        have HU0 : U w3.drew := (HU.out _).2 (More.refl _).drew
        have hneU : Nonempty { w' // U w' } := ⟨⟨_, HU0⟩⟩
        have g0 : ∀ i : { w' // U w' }, i.val.cell? ⟨w.heap.size, 0, none⟩ = some (.slice ra p.rl rc) := fun i => (HMx.out.trans ((HU.out _).1 i.property)).cell p0
        have g1 : ∀ i : { w' // U w' }, i.val.cell? ⟨w.heap.size, 1, none⟩ = some (.slice (some ⟨cb, co, none⟩) cl cc) := fun i => (HMx.out.trans ((HU.out _).1 i.property)).cell p1
        have g2 : ∀ i : { w' // U w' }, i.val.cell? ⟨lb, k * 2 + 1, none⟩ = some (.slice (some ⟨gs, 0, none⟩) 8 cs) := fun i => (HMx.out.trans ((HU.out _).1 i.property)).cell c1
        have g3 : ∀ i : { w' // U w' }, i.val.cell? ⟨wm.heap.size, 0, none⟩ = some (.int .i64 op) := fun i => (HBx.out.more ((HU.out _).1 i.property)).cell rfl
        have g4 : ∀ i : { w' // U w' }, i.val.cell? ⟨wm.heap.size, 1, none⟩ = some (.int .i64 a) := fun i => (HBx.out.more ((HU.out _).1 i.property)).cell rfl
        have g5 : ∀ i : { w' // U w' }, i.val.cell? ⟨wm.heap.size, 2, none⟩ = some (.int .i64 b) := fun i => (HBx.out.more ((HU.out _).1 i.property)).cell rfl
        have g6 : ∀ i : { w' // U w' }, i.val.cell? ⟨wm.heap.size, 3, none⟩ = some (.int .i64 ic) := fun i => (HBx.out.more ((HU.out _).1 i.property)).cell rfl
        have g7 : ∀ i : { w' // U w' }, i.val.cell? ⟨wm.heap.size, 4, none⟩ = some (.int .i64 n) := fun i => (HBx.out.more ((HU.out _).1 i.property)).cell rfl
        go_wp2_with (fail)
        refine wp_region_ord (S := U) [(0, true), (1, true), (2, true), (3, true), (4, true), (5, true), (6, true), (7, false)] (by kernel_rfl) (by kernel_rfl) (by kernel_rfl) HU0 ?_
        iterate 7 (refine wpOrd_take rfl (by kernel_rfl) (fun K hK => ?_); go_simp; refine hK _ _ ?_; clear hK K)
        refine wpOrd_busy rfl (by kernel_rfl) (fun K hK => ?_); go_simp
        refine (Csec.out _ (HMx.out.drew)).mono ?_
        rintro e w9 ⟨rfl, m9⟩
        have HM9 : Hid (More w3 w9) := (More.refl _).drew.trans m9
        have HU9 : U w9 := (HU.out _).2 HM9.out
        clear m9
        cases sc with
        | true =>
         have Hck : Hid (checkK p L = (5, (k : Int))) := by
          show _ = _
          have hf : faultK p k s = 5 := by unfold faultK; rw [Hno.out, Hsc2.out]; rfl
          rw [Hn2.out, hf]; rfl
         go_simp
         refine hK _ _ HU9 ?_; clear hK K
         refine wpOrd_done ?_
         clear g0 g1 g2 g3 g4 g5 g6 g7 hneU HU0 HU9
         have t0 := (HRES.out.more ((HMm.out.trans HMx.out).trans HM9.out)).cell (j := 0) (v := .int .i64 0) rfl
         have t1 := (HRES.out.more ((HMm.out.trans HMx.out).trans HM9.out)).cell (j := 1) (v := .int .i64 0) rfl
         have u0 := (HRES.out.more ((HMm.out.trans HMx.out).trans HM9.out)).frozen 0
         have u1 := (HRES.out.more ((HMm.out.trans HMx.out).trans HM9.out)).frozen 1
         go_wp2
         refine bodyPost_ret (v := flt 5 k) (by simp [flt, results, Try.results7, go_sem, *]) rfl ?_
         have hE := HP.out L HV2.out.2 _ (((HM0.out.trans ((HMm.out.trans HMx.out).trans HM9.out)).setCell (a := ⟨w.heap.size + 1, 0, none⟩) (by dsimp only; omega) (.int .i64 5)).setCell (a := ⟨w.heap.size + 1, 1, none⟩) (by dsimp only; omega) (.int .i64 k))
         rw [Hck.out] at hE
         exact hE
        | false =>
         have Hck : Hid (checkK p L = scanK p L g (k + 1)) := by
          show _ = _
          have hf : faultK p k s = 0 := by unfold faultK; rw [Hno.out, Hsc2.out]; rfl
          rw [Hn2.out, if_pos hf]
         go_simp
         refine hK _ _ HU9 ?_; clear hK K
         refine wpOrd_done ?_
         clear g0 g1 g2 g3 g4 g5 g6 g7 hneU HU0 HU9
         go_wp2
         go_roundg g
         case measure => omega
         case rel => exact ⟨k + 1, by omega, by first | rfl | simp, (HMw.out.trans HMx.out).trans HM9.out, Hck.out⟩
end
section
open Go.RowKit
set_option maxHeartbeats 1000000 in
theorem ref_memories (x y : Mem) (l l' : MLoc) (w : World) (hx : MIn w x l) (hy : MIn w y l') (hl : x.Like y) :
  Calls Try.prog 36 #[.slice l.ma x.ml l.mc, .slice l'.ma y.ml l'.mc] w fun e w' => e = .returned (.bool true) ∧ More w w' := by
 obtain ⟨ma, mb, mo, mc, A, C, gb, go⟩ := l
 obtain ⟨ma', mb', mo', mc', A', C', gb', go'⟩ := l'
 have H : Hid (MIn w x ⟨ma, mb, mo, mc, A, C, gb, go⟩ ∧ MIn w y ⟨ma', mb', mo', mc', A', C', gb', go'⟩ ∧ x.Like y) := ⟨hx, hy, hl⟩
 clear hx hy hl
 obtain ⟨n, hn⟩ : ∃ n, x.ml = n := ⟨_, rfl⟩
 have hn' : y.ml = n := by rw [← H.out.2.2.ml]; exact hn
 dsimp only
 rw [hn, hn']
 have Hn : Hid (x.ml = n ∧ y.ml = n) := ⟨hn, hn'⟩
 clear hn hn'
 go_enter Try.func36, Try.ntmps36
 go_wp2
 go_loopg [5] n (fun q i wr => ∃ k : Nat, k + q = n ∧ i = .int .i64 k ∧ More w wr)
 case atStart => exact ⟨0, by omega, rfl, More.refl _⟩
 case round =>
  obtain ⟨k, hkg, rfl, m⟩ := hrel
  have Hm : Hid (More w wr) := m
  clear m
  cases gk with
  | zero =>
   obtain rfl : k = n := by omega
   go_wp2
   go_ret
   exact ⟨rfl, Hm.out⟩
  | succ q =>
   have hk : k < n := by omega
   have hk' : (k : Int) < (n : Int) := by omega
   have hk0 : (0 : Int) ≤ (k : Int) := by omega
   have Hk : Hid (k < x.ml ∧ k < y.ml) := ⟨by rw [Hn.out.1]; exact hk, by rw [Hn.out.2]; exact hk⟩
   obtain rfl : ma = some ⟨mb, mo, none⟩ := H.out.1.hm (by have := Hk.out.1; omega)
   obtain rfl : ma' = some ⟨mb', mo', none⟩ := H.out.2.1.hm (by have := Hk.out.2; omega)
   have q1 := H.out.1.lists k Hk.out.1
   have q2 := H.out.2.1.lists k Hk.out.2
   dsimp only at q1 q2
   rw [← H.out.2.2.len k Hk.out.1] at q2
   obtain ⟨r, hr⟩ : ∃ r, x.len k = r := ⟨_, rfl⟩
   rw [hr] at q1 q2
   have HR : Hid (x.len k = r ∧ r < 4611686018427387904) := ⟨hr, by rw [← hr]; exact H.out.1.fitw k Hk.out.1⟩
   clear hr
   have Ha : Hid (0 < r → A k = some ⟨gb k, go k, none⟩) := fun h => H.out.1.hg k Hk.out.1 (by rw [HR.out.1]; exact h)
   have Ha' : Hid (0 < r → A' k = some ⟨gb' k, go' k, none⟩) := fun h => H.out.2.1.hg k Hk.out.2 (by rw [← H.out.2.2.len k Hk.out.1, HR.out.1]; exact h)
   obtain ⟨Ak, hA⟩ : ∃ z, A k = z := ⟨_, rfl⟩
   obtain ⟨Ak', hA'⟩ : ∃ z, A' k = z := ⟨_, rfl⟩
   rw [hA] at q1 Ha
   rw [hA'] at q2 Ha'
   clear hA hA'
   have Hq : Hid (w.cell? ⟨mb, mo + k, none⟩ = some (.slice Ak r (C k)) ∧ w.cell? ⟨mb', mo' + k, none⟩ = some (.slice Ak' r (C' k))) := ⟨q1, q2⟩
   obtain ⟨S, HS⟩ : ∃ S : World → Prop, Hid (∀ w', S w' ↔ More wr w') := ⟨fun w' => More wr w', fun _ => Iff.rfl⟩
   have k0 : ∀ i : { w' // S w' }, i.val.cell? ⟨mb, mo + k, none⟩ = some (.slice Ak r (C k)) := fun i => ((HS.out _).1 i.property).cell (Hm.out.cell q1)
   have k1 : ∀ i : { w' // S w' }, i.val.cell? ⟨mb', mo' + k, none⟩ = some (.slice Ak' r (C' k)) := fun i => ((HS.out _).1 i.property).cell (Hm.out.cell q2)
   have hne : Nonempty { w' // S w' } := ⟨⟨wr, (HS.out _).2 (More.refl _)⟩⟩
   clear q1 q2
   go_wp2_with (fail)
   refine wp_region_ord (S := S) [(0, true), (1, true), (2, true), (3, true), (4, true), (5, true), (6, true), (7, true), (8, true), (9, true), (10, true)] (by kernel_rfl) (by kernel_rfl) (by kernel_rfl) ((HS.out _).2 (More.refl _).drew) ?_
   iterate 11 (refine wpOrd_take rfl (by kernel_rfl) (fun K hK => ?_); go_simp; refine hK _ _ ?_; clear hK K)
   refine wpOrd_done ?_
   clear k0 k1 hne
   go_wp2
   go_loopg [6] r (fun g i wq => ∃ j : Nat, j + g = r ∧ i = .int .i64 j ∧ More w wq)
   case atStart => exact ⟨0, by omega, rfl, Hm.out.drew⟩
   case round =>
    obtain ⟨j, hjg, rfl, mq⟩ := hrel
    have q1 := mq.cell Hq.out.1
    have q2 := mq.cell Hq.out.2
    have Hmq : Hid (More w wr) := mq
    clear mq
    cases gk with
    | zero =>
     obtain rfl : j = r := by omega
     go_wp2
     go_roundg q
     case measure => omega
     case rel => exact ⟨k + 1, by omega, by first | rfl | (simp; unfold wrap64; have := H.out.1.fitl; have := Hn.out.1; omega), Hmq.out⟩
    | succ g =>
     have hj : j < r := by omega
     have hj' : (j : Int) < (r : Int) := by omega
     have hj0 : (0 : Int) ≤ (j : Int) := by omega
     obtain rfl := Ha.out (by omega)
     obtain rfl := Ha'.out (by omega)
     have p1 := Hmq.out.cell (H.out.1.words k Hk.out.1 j (by rw [HR.out.1]; exact hj))
     have p2 := Hmq.out.cell (H.out.2.1.words k Hk.out.2 j (by rw [← H.out.2.2.len k Hk.out.1, HR.out.1]; exact hj))
     rw [← H.out.2.2.wd k Hk.out.1 j (by rw [HR.out.1]; exact hj)] at p2
     dsimp only at p1 p2
     obtain ⟨z, hz⟩ : ∃ z, x.wd k j = z := ⟨_, rfl⟩
     rw [hz] at p1 p2
     clear hz
     obtain ⟨S, HS⟩ : ∃ S : World → Prop, Hid (∀ w', S w' ↔ More wr w') := ⟨fun w' => More wr w', fun _ => Iff.rfl⟩
     have k0 : ∀ i : { w' // S w' }, i.val.cell? ⟨mb, mo + k, none⟩ = some (.slice (some ⟨gb k, go k, none⟩) r (C k)) := fun i => ((HS.out _).1 i.property).cell q1
     have k1 : ∀ i : { w' // S w' }, i.val.cell? ⟨mb', mo' + k, none⟩ = some (.slice (some ⟨gb' k, go' k, none⟩) r (C' k)) := fun i => ((HS.out _).1 i.property).cell q2
     have k2 : ∀ i : { w' // S w' }, i.val.cell? ⟨gb k, go k + j, none⟩ = some (.int .i64 z) := fun i => ((HS.out _).1 i.property).cell p1
     have k3 : ∀ i : { w' // S w' }, i.val.cell? ⟨gb' k, go' k + j, none⟩ = some (.int .i64 z) := fun i => ((HS.out _).1 i.property).cell p2
     have hne : Nonempty { w' // S w' } := ⟨⟨wr, (HS.out _).2 (More.refl _)⟩⟩
     go_wp2_with (fail)
     refine wp_region_ord (S := S) [(0, true), (1, true), (2, true), (3, true), (4, true), (5, true), (6, true), (7, true), (8, true), (9, true), (10, true), (11, true), (12, true), (13, true), (14, true)] (by kernel_rfl) (by kernel_rfl) (by kernel_rfl) ((HS.out _).2 (More.refl _).drew) ?_
     iterate 15 (refine wpOrd_take rfl (by kernel_rfl) (fun K hK => ?_); go_simp; refine hK _ _ ?_; clear hK K)
     refine wpOrd_done ?_
     clear k0 k1 k2 k3 hne p1 p2 q1 q2
     go_wp2
     go_roundg g
     case measure => omega
     case rel => exact ⟨j + 1, by omega, by first | rfl | (simp; unfold wrap64; have := HR.out.2; omega), Hmq.out.drew⟩
end
section
open Go.RowKit
set_option linter.unusedSimpArgs false
set_option linter.unusedVariables false
set_option maxRecDepth 8000
/-- Two programs are one. -/
structure Prg.Eq8 (p q : Prg) : Prop where
 rl : p.rl = q.rl
 reg : ∀ i, i < p.rl → p.log i = q.log i ∧ p.sec i = q.sec i
 cl : p.cl = q.cl
 ins : ∀ i, i < p.cl → p.ins i = q.ins i

set_option maxHeartbeats 2000000 in
theorem same8_true (p q : Prg) (l l' : Loc) (w : World) (hp : PIn w p l) (hq : PIn w q l') (h : p.Eq8 q) (hrl : p.rl < 4611686018427387904) (hcl : p.cl < 4611686018427387904) :
  Calls Try.prog 8 #[.agg #[.slice l.ra p.rl l.rc, .slice l.ca p.cl l.cc], .agg #[.slice l'.ra q.rl l'.rc, .slice l'.ca q.cl l'.cc]] w fun e w' => e = .returned (.bool true) ∧ More w w' := by
 have H : Hid (PIn w p l ∧ PIn w q l' ∧ p.Eq8 q) := ⟨hp, hq, h⟩
 rw [← h.rl, ← h.cl]
 clear hp hq h
 obtain ⟨rl, Hrl⟩ : ∃ x, Hid (p.rl = x) := ⟨_, rfl⟩
 obtain ⟨cl, Hcl⟩ : ∃ x, Hid (p.cl = x) := ⟨_, rfl⟩
 obtain ⟨ra, rb, ro, rc, ca, cb, co, cc⟩ := l
 obtain ⟨ra', rb', ro', rc', ca', cb', co', cc'⟩ := l'
 dsimp only
 rw [Hrl.out] at hrl
 rw [Hcl.out] at hcl
 rw [Hrl.out, Hcl.out]
 obtain ⟨W, HW⟩ : ∃ W : World, Hid (W = (w.alloc (.cells #[.slice ra rl rc, .slice ca cl cc] 25)).alloc (.cells #[.slice ra' rl rc', .slice ca' cl cc'] 25)) := ⟨_, rfl⟩
 have HM : Hid (More w W) := by rw [HW.out]; exact ((More.refl _).alloc _ _).alloc _ _
 have b0 : W.cell? ⟨w.heap.size, 0, none⟩ = some (.slice ra rl rc) := by rw [HW.out]; go_simp
 have b1 : W.cell? ⟨w.heap.size, 1, none⟩ = some (.slice ca cl cc) := by rw [HW.out]; go_simp
 have b2 : W.cell? ⟨w.heap.size + 1, 0, none⟩ = some (.slice ra' rl rc') := by rw [HW.out]; go_simp
 have b3 : W.cell? ⟨w.heap.size + 1, 1, none⟩ = some (.slice ca' cl cc') := by rw [HW.out]; go_simp
 have HB : Hid (∀ w', More W w' → w'.cell? ⟨w.heap.size, 0, none⟩ = some (.slice ra rl rc) ∧ w'.cell? ⟨w.heap.size, 1, none⟩ = some (.slice ca cl cc) ∧ w'.cell? ⟨w.heap.size + 1, 0, none⟩ = some (.slice ra' rl rc') ∧ w'.cell? ⟨w.heap.size + 1, 1, none⟩ = some (.slice ca' cl cc')) := fun w' m => ⟨m.cell b0, m.cell b1, m.cell b2, m.cell b3⟩
 go_enter Try.func8, Try.ntmps8
 go_wp2_with (fail)
 rw [← HW.out]
 clear b0 b1 b2 b3
 go_loopg [5] rl (fun g iv wr => ∃ k : Nat, k + g = rl ∧ iv = .int .i64 k ∧ Hid (More W wr))
 case atStart => exact ⟨0, by omega, rfl, More.refl _⟩
 case round =>
  obtain ⟨k, hkg, rfl, Hr⟩ := hrel
  obtain ⟨b0, b1, b2, b3⟩ := HB.out wr Hr.out
  cases gk with
  | zero =>
   obtain rfl : k = rl := by omega
   go_wp2_with (fail)
   go_loopg [6] cl (fun g iv wr => ∃ k : Nat, k + g = cl ∧ iv = .int .i64 k ∧ Hid (More W wr))
   case atStart => exact ⟨0, by omega, rfl, Hr.out⟩
   case round =>
    clear b0 b1 b2 b3
    obtain ⟨j, hjg, rfl, Hs⟩ := hrel
    obtain ⟨b0, b1, b2, b3⟩ := HB.out wr Hs.out
    cases gk with
    | zero =>
     obtain rfl : j = cl := by omega
     go_wp2
     go_ret
     exact ⟨rfl, HM.out.trans Hs.out⟩
    | succ g =>
     have hj : j < cl := by omega
     have hji : (j : Int) < cl := by omega
     have hj63 : wrap64 ((j : Int) + 1) = (j : Int) + 1 := by unfold wrap64; omega
     have hjp : j < p.cl := by rw [Hcl.out]; exact hj
     have q1 := (H.out.1.code.more (HM.out.trans Hs.out)) j hjp
     have q2 := (H.out.2.1.code.more (HM.out.trans Hs.out)) j (by rw [← H.out.2.2.cl]; exact hjp)
     rw [← H.out.2.2.ins j hjp] at q2
     obtain rfl : ca = some ⟨cb, co, none⟩ := H.out.1.hc (by omega)
     obtain rfl : ca' = some ⟨cb', co', none⟩ := H.out.2.1.hc (by rw [← H.out.2.2.cl]; omega)
     dsimp only at q1 q2
     obtain ⟨i, hi⟩ : ∃ i, p.ins j = i := ⟨_, rfl⟩
     rw [hi] at q1 q2
     obtain ⟨op, a, b, c, n⟩ := i
     dsimp only at q1 q2
     obtain ⟨x0, x1, x2, x3, x4⟩ := q1
     obtain ⟨y0, y1, y2, y3, y4⟩ := q2
     clear hi hjp
     obtain ⟨S, HS⟩ : ∃ S : World → Prop, Hid (∀ w', S w' ↔ More wr w') := ⟨_, fun _ => Iff.rfl⟩
     have HS0 : S wr.drew := (HS.out _).2 (More.refl _).drew
     have hne : Nonempty { w' // S w' } := ⟨⟨_, HS0⟩⟩
     have k0 : ∀ i : { w' // S w' }, i.val.cell? ⟨w.heap.size, 1, none⟩ = some (.slice (some ⟨cb, co, none⟩) cl cc) := fun i => ((HS.out _).1 i.property).cell b1
     have k1 : ∀ i : { w' // S w' }, i.val.cell? ⟨w.heap.size + 1, 1, none⟩ = some (.slice (some ⟨cb', co', none⟩) cl cc') := fun i => ((HS.out _).1 i.property).cell b3
     have k2 : ∀ i : { w' // S w' }, i.val.cell? ⟨cb, co + j * 5, none⟩ = some (.int .i64 op) := fun i => ((HS.out _).1 i.property).cell x0
     have k3 : ∀ i : { w' // S w' }, i.val.cell? ⟨cb', co' + j * 5, none⟩ = some (.int .i64 op) := fun i => ((HS.out _).1 i.property).cell y0
     have k4 : ∀ i : { w' // S w' }, i.val.cell? ⟨cb, co + j * 5 + 1, none⟩ = some (.int .i64 a) := fun i => ((HS.out _).1 i.property).cell x1
     have k5 : ∀ i : { w' // S w' }, i.val.cell? ⟨cb', co' + j * 5 + 1, none⟩ = some (.int .i64 a) := fun i => ((HS.out _).1 i.property).cell y1
     have k6 : ∀ i : { w' // S w' }, i.val.cell? ⟨cb, co + j * 5 + 2, none⟩ = some (.int .i64 b) := fun i => ((HS.out _).1 i.property).cell x2
     have k7 : ∀ i : { w' // S w' }, i.val.cell? ⟨cb', co' + j * 5 + 2, none⟩ = some (.int .i64 b) := fun i => ((HS.out _).1 i.property).cell y2
     have k8 : ∀ i : { w' // S w' }, i.val.cell? ⟨cb, co + j * 5 + 3, none⟩ = some (.int .i64 c) := fun i => ((HS.out _).1 i.property).cell x3
     have k9 : ∀ i : { w' // S w' }, i.val.cell? ⟨cb', co' + j * 5 + 3, none⟩ = some (.int .i64 c) := fun i => ((HS.out _).1 i.property).cell y3
     have k10 : ∀ i : { w' // S w' }, i.val.cell? ⟨cb, co + j * 5 + 4, none⟩ = some (.int .i64 n) := fun i => ((HS.out _).1 i.property).cell x4
     have k11 : ∀ i : { w' // S w' }, i.val.cell? ⟨cb', co' + j * 5 + 4, none⟩ = some (.int .i64 n) := fun i => ((HS.out _).1 i.property).cell y4
     go_wp2_with (fail)
     refine wp_region_ord (S := S) [(0, true), (1, true), (2, true), (3, true), (4, true), (5, true), (6, true), (7, true), (8, true), (9, true), (10, true)] (by kernel_rfl) (by kernel_rfl) (by kernel_rfl) HS0 ?_
     iterate 11 (refine wpOrd_take rfl (by kernel_rfl) (fun K hK => ?_); go_simp; refine hK _ _ ?_; clear hK K)
     refine wpOrd_done ?_
     clear hne HS0 k0 k1 k2 k3 k4 k5 k6 k7 k8 k9 k10 k11
     go_wp2
     go_roundg g
     case measure => omega
     case rel => exact ⟨j + 1, by omega, by first | rfl | simp, Hs.out.trans (More.refl _).drew⟩
  | succ g =>
   have hk : k < rl := by omega
   have hki : (k : Int) < rl := by omega
   have hk63 : wrap64 ((k : Int) + 1) = (k : Int) + 1 := by unfold wrap64; omega
   have hkp : k < p.rl := by rw [Hrl.out]; exact hk
   have q1 := (H.out.1.regs.more (HM.out.trans Hr.out)) k hkp
   have q2 := (H.out.2.1.regs.more (HM.out.trans Hr.out)) k (by rw [← H.out.2.2.rl]; exact hkp)
   rw [← (H.out.2.2.reg k hkp).1, ← (H.out.2.2.reg k hkp).2] at q2
   obtain rfl : ra = some ⟨rb, ro, none⟩ := H.out.1.hr (by omega)
   obtain rfl : ra' = some ⟨rb', ro', none⟩ := H.out.2.1.hr (by rw [← H.out.2.2.rl]; omega)
   dsimp only at q1 q2
   obtain ⟨lg, hlg⟩ : ∃ i, p.log k = i := ⟨_, rfl⟩
   obtain ⟨sc, hsc⟩ : ∃ i, p.sec k = i := ⟨_, rfl⟩
   rw [hlg, hsc] at q1 q2
   obtain ⟨x0, x1⟩ := q1
   obtain ⟨y0, y1⟩ := q2
   clear hlg hsc hkp
   obtain ⟨S, HS⟩ : ∃ S : World → Prop, Hid (∀ w', S w' ↔ More wr w') := ⟨_, fun _ => Iff.rfl⟩
   have HS0 : S wr.drew := (HS.out _).2 (More.refl _).drew
   have hne : Nonempty { w' // S w' } := ⟨⟨_, HS0⟩⟩
   have k0 : ∀ i : { w' // S w' }, i.val.cell? ⟨w.heap.size, 0, none⟩ = some (.slice (some ⟨rb, ro, none⟩) rl rc) := fun i => ((HS.out _).1 i.property).cell b0
   have k1 : ∀ i : { w' // S w' }, i.val.cell? ⟨w.heap.size + 1, 0, none⟩ = some (.slice (some ⟨rb', ro', none⟩) rl rc') := fun i => ((HS.out _).1 i.property).cell b2
   have k2 : ∀ i : { w' // S w' }, i.val.cell? ⟨rb, ro + k * 2, none⟩ = some (.int .i64 lg) := fun i => ((HS.out _).1 i.property).cell x0
   have k3 : ∀ i : { w' // S w' }, i.val.cell? ⟨rb, ro + k * 2 + 1, none⟩ = some (.bool sc) := fun i => ((HS.out _).1 i.property).cell x1
   have k4 : ∀ i : { w' // S w' }, i.val.cell? ⟨rb', ro' + k * 2, none⟩ = some (.int .i64 lg) := fun i => ((HS.out _).1 i.property).cell y0
   have k5 : ∀ i : { w' // S w' }, i.val.cell? ⟨rb', ro' + k * 2 + 1, none⟩ = some (.bool sc) := fun i => ((HS.out _).1 i.property).cell y1
   go_wp2_with (fail)
   refine wp_region_ord (S := S) [(0, true), (1, true), (2, true), (3, true), (4, true), (5, true), (6, true), (7, true), (8, true), (9, true), (10, true)] (by kernel_rfl) (by kernel_rfl) (by kernel_rfl) HS0 ?_
   iterate 11 (refine wpOrd_take rfl (by kernel_rfl) (fun K hK => ?_); go_simp; refine hK _ _ ?_; clear hK K)
   refine wpOrd_done ?_
   clear hne HS0 k0 k1 k2 k3 k4 k5
   go_wp2
   go_roundg g
   case measure => omega
   case rel => exact ⟨k + 1, by omega, by first | rfl | simp, Hr.out.trans (More.refl _).drew⟩

/-- The regions of two programs are the same. -/
theorem regions_true (p q : Prg) (l l' : Loc) (w : World) (hp : PIn w p l) (hq : PIn w q l') (hrl : p.rl = q.rl) (hreg : ∀ i, i < p.rl → p.log i = q.log i ∧ p.sec i = q.sec i) (hb : p.rl < 4611686018427387904) :
  Calls Try.prog 10 #[.agg #[.slice l.ra p.rl l.rc, .slice l.ca p.cl l.cc], .agg #[.slice l'.ra q.rl l'.rc, .slice l'.ca q.cl l'.cc]] w fun e w' => e = .returned (.bool true) ∧ More w w' := by
 have C : Hid (∀ w1 : World, More w w1 → Calls Try.prog 8 #[.agg #[.slice l.ra p.rl l.rc, .slice none 0 0], .agg #[.slice l'.ra q.rl l'.rc, .slice none 0 0]] w1 fun e w' => e = .returned (.bool true) ∧ More w1 w') := fun w1 m1 =>
  same8_true ⟨p.rl, p.log, p.sec, 0, p.ins⟩ ⟨q.rl, q.log, q.sec, 0, q.ins⟩ ⟨l.ra, l.rb, l.ro, l.rc, none, 0, 0, 0⟩ ⟨l'.ra, l'.rb, l'.ro, l'.rc, none, 0, 0, 0⟩ w1
   ⟨hp.hr, fun h => absurd h (Nat.lt_irrefl _), hp.regs.more m1, fun i hi => absurd hi (Nat.not_lt_zero _)⟩ ⟨hq.hr, fun h => absurd h (Nat.lt_irrefl _), hq.regs.more m1, fun i hi => absurd hi (Nat.not_lt_zero _)⟩
   ⟨hrl, hreg, rfl, fun i hi => absurd hi (Nat.not_lt_zero _)⟩ hb (by simp)
 clear hp hq hrl hreg hb
 obtain ⟨a1, h1⟩ : ∃ x, Value.slice l.ra p.rl l.rc = x := ⟨_, rfl⟩
 obtain ⟨a2, n2, c2, h2⟩ : ∃ a n c, Value.slice l.ca p.cl l.cc = .slice a n c := ⟨_, _, _, rfl⟩
 obtain ⟨a4, n4, c4, h4⟩ : ∃ a n c, Value.slice l'.ca q.cl l'.cc = .slice a n c := ⟨_, _, _, rfl⟩
 obtain ⟨a5, n5, c5, h5⟩ : ∃ a n c, Value.slice l.ra p.rl l.rc = .slice a n c := ⟨_, _, _, rfl⟩
 obtain ⟨a6, n6, c6, h6⟩ : ∃ a n c, Value.slice l'.ra q.rl l'.rc = .slice a n c := ⟨_, _, _, rfl⟩
 rw [h5, h6] at C
 rw [h5, h6, h2, h4]
 clear h1 h2 h4 h5 h6
 go_enter Try.func10, Try.ntmps10
 go_wp2_with (fail)
 refine (C.out _ ((((More.refl _).alloc _ _).alloc _ _).alloc _ _ |>.alloc _ _)).mono ?_
 rintro e w1 ⟨rfl, m1⟩
 have Hm1 : Hid (More w w1) := ((((More.refl _).alloc _ _).alloc _ _).alloc _ _ |>.alloc _ _).trans m1
 clear m1
 go_wp2
 go_ret
 exact ⟨rfl, Hm1.out⟩
/-- evenkeelref6.Check, whatever the program. -/
theorem check6_told (p : Prg) (l : Loc) (w : World) (hp : PIn w p l) (hf : p.Fit) :
  Calls Try.prog 7 #[.agg #[.slice l.ra p.rl l.rc, .slice l.ca p.cl l.cc]] w fun e w' => ∃ f : Int × Int, Told p f ∧ e = .returned (.agg #[.int .i64 f.1, .int .i64 f.2]) ∧ More w w' := by
 by_cases hok : p.Ok 200 8
 ·refine (check6_ok p l w hp hok (fun i hi => (hf.ins i hi).2.2.2.2) (fun w1 m1 => may_true p l w1 (hp.more m1) hok)).mono ?_
  rintro e w' ⟨l', h1, rfl, m⟩
  exact ⟨_, .inr ⟨hok, l', h1, rfl⟩, rfl, m⟩
 ·refine (check6_form _ _ ⟨_, _, _, rfl⟩ ⟨_, _, _, rfl⟩ w (fun w2 m2 => ?_)).mono (fun e w' ⟨h1, h2⟩ => ⟨(2, 0), .inl ⟨hok, rfl⟩, h1, h2⟩)
  refine (ref_may p l _ (hp.more m2)).mono ?_
  rintro e w' ⟨r, rfl, hr, m⟩
  cases r with
  | false => exact ⟨rfl, m⟩
  | true => exact absurd (hr.1 rfl) hok
theorem hard_true (p : Prg) (l : Loc) (w : World) (hp : PIn w p l) (hok : p.Ok 8000 10) :
  Calls Try.prog 9 #[.agg #[.slice l.ra p.rl l.rc, .slice l.ca p.cl l.cc]] w fun e w' => e = .returned (.bool true) ∧ More w w' := by
 refine (ref_hard p l _ hp).mono ?_
 rintro e w' ⟨r, rfl, hr, m⟩
 cases r with
 | true => exact ⟨rfl, m⟩
 | false => exact absurd (hr.2 hok) (by simp)

set_option maxHeartbeats 2000000 in
/-- The law's same, where the one does what the other one does. -/
theorem same_of (x1 x2 x3 y1 y2 y3 : Int) (su sv mu mv : Value) (w : World) (hsu : ∃ a n c, su = .slice a n c) (hsv : ∃ a n c, sv = .slice a n c) (hmu : ∃ a n c, mu = .slice a n c) (hmv : ∃ a n c, mv = .slice a n c)
  (h : y1 = 0 ∨ (x1 = y1 ∧ x2 = y2 ∧ ∀ w1 : World, More w w1 → Calls Try.prog 36 #[mu, mv] w1 fun e w' => e = .returned (.bool true) ∧ More w1 w')) :
  Calls Try.prog 14 #[.agg #[.int .i64 x1, .int .i64 x2, .int .i64 x3, su, mu], .agg #[.int .i64 y1, .int .i64 y2, .int .i64 y3, sv, mv]] w fun e w' => e = .returned (.bool true) ∧ More w w' := by
 obtain ⟨a3, n3, cc3, rfl⟩ := hsu
 obtain ⟨a4, n4, cc4, rfl⟩ := hsv
 obtain ⟨a5, n5, cc5, rfl⟩ := hmu
 obtain ⟨a6, n6, cc6, rfl⟩ := hmv
 rcases h with rfl | ⟨rfl, rfl, h⟩
 ·go_enter Try.func14, Try.ntmps14
  go_wp2
  go_ret
  exact ⟨rfl, ((More.refl _).alloc _ _).alloc _ _⟩
 ·have C : Hid (∀ w1 : World, More w w1 → Calls Try.prog 36 #[.slice a5 n5 cc5, .slice a6 n6 cc6] w1 fun e w' => e = .returned (.bool true) ∧ More w1 w') := h
  clear h
  by_cases h0 : x1 = 0
  ·subst h0
   go_enter Try.func14, Try.ntmps14
   go_wp2
   go_ret
   exact ⟨rfl, ((More.refl _).alloc _ _).alloc _ _⟩
  ·have e0 : (x1 == 0) = false := by simp [h0]
   clear h0
   go_enter Try.func14, Try.ntmps14
   go_wp2_with (fail)
   refine (C.out _ (((More.refl _).alloc _ _).alloc _ _)).mono ?_
   rintro e w1 ⟨rfl, m1⟩
   have Hm : Hid (More w w1) := (((More.refl _).alloc _ _).alloc _ _).trans m1
   clear m1
   go_wp2
   go_ret
   exact ⟨rfl, Hm.out⟩

/-- What is made of a program without fault: another one, with something told of it. -/
def Makes (F : Nat) (p : Prg) (l : Loc) (Q : Prg → Prop) (w : World) : Prop :=
 Calls Try.prog F #[.agg #[.slice l.ra p.rl l.rc, .slice l.ca p.cl l.cc]] w fun e w' => ∃ (h : Prg) (lh : Loc), Q h ∧ PIn w' h lh ∧ e = .returned (.tuple #[.agg #[.slice lh.ra h.rl lh.rc, .slice lh.ca h.cl lh.cc], .agg #[.int .i64 0, .int .i64 0]]) ∧ More w w'
/-- Hard, and with the same regions. -/
structure Like8 (p h : Prg) : Prop where
 ok : h.Ok 8000 10
 fit : h.Fit
 rl : p.rl = h.rl
 reg : ∀ i, i < p.rl → p.log i = h.log i ∧ p.sec i = h.sec i
theorem Like8.fits {p h : Prg} (k : Like8 p h) {ml : Nat} {len : Nat → Nat} (hf : FitsOk p.rl p.log ml len) : FitsOk h.rl h.log ml len :=
 ⟨k.ok.1, hf.2.1.trans k.rl, fun i hi => by rw [hf.2.2 i (by rw [k.rl]; exact hi), (k.reg i (by rw [k.rl]; exact hi)).1]⟩

/-- One program does what another one does, if that ends, with so many times the steps. -/
def DoesSame (p h : Prg) (k top : Nat) : Prop := ∀ (m : Mem), FitsOk p.rl p.log m.ml m.len → (∀ j, j < m.ml → ∀ i, i < m.len j → B64 (m.wd j i)) → ∀ f : Nat, f ≤ top →
 (playI p m f).fin = 0 ∨ ((playI h m (k * f + k)).fin = (playI p m f).fin ∧ (playI h m (k * f + k)).val = (playI p m f).val ∧ (playI h m (k * f + k)).mem.Like (playI p m f).mem)
set_option maxHeartbeats 4000000 in
theorem fence_same_walk (p : Prg) (l : Loc) (m : Mem) (ml : MLoc) (fuel : Int) (w : World) (hp : PIn w p l) (hf : p.Fit) (hm : MRaw w m ml) (hwd : ∀ j, j < m.ml → ∀ i, i < m.len j → B64 (m.wd j i))
  (Q : Prg → Prop) (hQ : ∀ h, Q h → Like8 p h ∧ DoesSame p h 4 1000) (MK : p.Ok 200 8 → ∀ lk, Known p lk → (checkK p lk).1 = 0 → ∀ w1 : World, More w w1 → Makes 6 p l Q w1) :
  Calls Try.prog 4 #[.agg #[.slice l.ra p.rl l.rc, .slice l.ca p.cl l.cc], .slice ml.ma m.ml ml.mc, .int .i64 fuel] w fun e w' => e = .returned (.bool true) ∧ More w w' := by
 suffices hP : ∀ P : Ending → World → Prop, (∀ w', More w w' → P (.returned (.bool true)) w') → Calls Try.prog 4 #[.agg #[.slice l.ra p.rl l.rc, .slice l.ca p.cl l.cc], .slice ml.ma m.ml ml.mc, .int .i64 fuel] w P from hP _ (fun w' m => ⟨rfl, m⟩)
 intro P hP0
 have HP : Hid (∀ w', More w w' → P (.returned (.bool true)) w') := hP0
 have H : Hid (PIn w p l ∧ p.Fit ∧ MRaw w m ml ∧ (∀ j, j < m.ml → ∀ i, i < m.len j → B64 (m.wd j i)) ∧ ∀ h, Q h → Like8 p h ∧ DoesSame p h 4 1000) := ⟨hp, hf, hm, hwd, hQ⟩
 have CK : Hid (p.Ok 200 8 → ∀ lk, Known p lk → (checkK p lk).1 = 0 → ∀ w1 : World, More w w1 → Makes 6 p l Q w1) := MK
 clear hP0 hp hf hm hwd hQ MK
 have C1 : Hid (∀ w1 : World, More w w1 → Calls Try.prog 7 #[.agg #[.slice l.ra p.rl l.rc, .slice l.ca p.cl l.cc]] w1 fun e w' => ∃ f : Int × Int, Told p f ∧ e = .returned (.agg #[.int .i64 f.1, .int .i64 f.2]) ∧ More w1 w') := fun w1 m1 => check6_told p l w1 (H.out.1.more m1) H.out.2.1
 have CF : Hid (∀ r : Bool, (r = true ↔ FitsOk p.rl p.log m.ml m.len) → ∀ w1 : World, More w w1 → Calls Try.prog 12 #[.agg #[.slice l.ra p.rl l.rc, .slice l.ca p.cl l.cc], .slice ml.ma m.ml ml.mc] w1 fun e w' => e = .returned (.bool r) ∧ More w1 w') := fun r hr w1 m1 => fits_says p l m ml w1 (H.out.1.more m1) (H.out.2.2.1.more m1) r hr
 have CP : Hid (p.Ok 200 8 → FitsOk p.rl p.log m.ml m.len → fuel ≤ 1000 → ∀ w1 : World, More w w1 → Calls Try.prog 13 #[.agg #[.slice l.ra p.rl l.rc, .slice l.ca p.cl l.cc], .slice ml.ma m.ml ml.mc, .int .i64 fuel] w1 fun e w' => ∃ v, e = .returned v ∧ ShownAt w' v (playI p m fuel.toNat) ∧ More w1 w') := fun hok hfit hfu w1 m1 => by
  obtain ⟨f1, f2, f3, f4⟩ := fits_in hok hfit
  exact ref_play_int p l m ml fuel w1 (H.out.1.more m1) ((H.out.2.2.1.more m1).in_ f2 f4) hok.hard H.out.2.1 f1 f3 H.out.2.2.2.1 (by omega)
 have CH : Hid (∀ h lh, Q h → p.Ok 200 8 → FitsOk p.rl p.log m.ml m.len → 0 ≤ fuel → fuel ≤ 1000 → ∀ w1 : World, More w w1 → PIn w1 h lh →
   (Calls Try.prog 9 #[.agg #[.slice lh.ra h.rl lh.rc, .slice lh.ca h.cl lh.cc]] w1 fun e w' => e = .returned (.bool true) ∧ More w1 w') ∧
   (Calls Try.prog 10 #[.agg #[.slice l.ra p.rl l.rc, .slice l.ca p.cl l.cc], .agg #[.slice lh.ra h.rl lh.rc, .slice lh.ca h.cl lh.cc]] w1 fun e w' => e = .returned (.bool true) ∧ More w1 w') ∧
   (Calls Try.prog 13 #[.agg #[.slice lh.ra h.rl lh.rc, .slice lh.ca h.cl lh.cc], .slice ml.ma m.ml ml.mc, .int .i64 (4 * fuel + 4)] w1 fun e w' => ∃ v, e = .returned v ∧ ShownAt w' v (playI h m (4 * fuel.toNat + 4)) ∧ More w1 w')) := fun h lh q hok hfit f0 f1 w1 m1 hin => by
  obtain ⟨k, _⟩ := H.out.2.2.2.2 h q
  obtain ⟨g1, g2, g3, g4⟩ := fits_in hok hfit
  have hfit' := k.fits hfit
  refine ⟨hard_true h lh w1 hin k.ok, regions_true p h l lh w1 (H.out.1.more m1) hin k.rl k.reg (by have := hok.1.1; omega), ?_⟩
  have := ref_play_int h lh m ml (4 * fuel + 4) w1 hin ((H.out.2.2.1.more m1).in_ g2 g4) k.ok k.fit hfit'.2.1 (fun i hi => hfit'.2.2 i (by rw [← hfit'.2.1]; exact hi)) H.out.2.2.2.1 (by omega)
  rw [show (4 * fuel + 4).toNat = 4 * fuel.toNat + 4 by omega] at this
  exact this
 have HS : Hid (∀ h, Q h → FitsOk p.rl p.log m.ml m.len → fuel ≤ 1000 → ∀ u v w1, ShownAt w1 u (playI h m (4 * fuel.toNat + 4)) → ShownAt w1 v (playI p m fuel.toNat) →
   Calls Try.prog 14 #[u, v] w1 fun e w' => e = .returned (.bool true) ∧ More w1 w') := fun h q hfit hfu u v w1 hu hv => by
  obtain ⟨_, k⟩ := H.out.2.2.2.2 h q
  have kk := k m hfit H.out.2.2.2.1 fuel.toNat (by omega)
  obtain ⟨su, lu, rfl, hu1, hu2⟩ := hu
  obtain ⟨sv, lv, rfl, hv1, hv2⟩ := hv
  obtain ⟨a1, _, _, c1, rfl, _⟩ := hu1
  obtain ⟨a2, _, _, c2, rfl, _⟩ := hv1
  refine same_of _ _ _ _ _ _ _ _ _ _ w1 ⟨_, _, _, rfl⟩ ⟨_, _, _, rfl⟩ ⟨_, _, _, rfl⟩ ⟨_, _, _, rfl⟩ ?_
  rcases kk with kk | ⟨k1, k2, k3⟩
  ·exact .inl kk
  ·exact .inr ⟨k1, k2, fun w2 m2 => ref_memories _ _ _ _ w2 (hu2.more m2) (hv2.more m2) k3⟩
 clear H
 obtain ⟨ra, Hra⟩ : ∃ x, Hid (l.ra = x) := ⟨_, rfl⟩
 obtain ⟨rl, Hrl⟩ : ∃ x, Hid (p.rl = x) := ⟨_, rfl⟩
 obtain ⟨rc, Hrc⟩ : ∃ x, Hid (l.rc = x) := ⟨_, rfl⟩
 obtain ⟨ca, Hca⟩ : ∃ x, Hid (l.ca = x) := ⟨_, rfl⟩
 obtain ⟨cl, Hcl⟩ : ∃ x, Hid (p.cl = x) := ⟨_, rfl⟩
 obtain ⟨cc, Hcc⟩ : ∃ x, Hid (l.cc = x) := ⟨_, rfl⟩
 obtain ⟨mv, Hmv⟩ : ∃ x, Hid (Value.slice ml.ma m.ml ml.mc = x) := ⟨_, rfl⟩
 obtain ⟨FA, HFA⟩ : ∃ x : Prop, Hid (FitsOk p.rl p.log m.ml m.len = x) := ⟨_, rfl⟩
 unfold Makes at CK
 rw [HFA.out] at CF CP CH HS
 rw [Hmv.out] at CF CP CH
 rw [Hra.out, Hrl.out, Hrc.out, Hca.out, Hcl.out, Hcc.out] at C1 CF CP CK CH
 rw [Hra.out, Hrl.out, Hrc.out, Hca.out, Hcl.out, Hcc.out, Hmv.out]
 clear Hmv HFA Hra Hrl Hrc Hca Hcl Hcc
 go_enter Try.func4, Try.ntmps4
 go_wp2_with (fail)
 refine (C1.out _ ((More.refl _).alloc _ _)).mono ?_
 rintro e w1 ⟨⟨f1, f2⟩, hT, rfl, m1⟩
 dsimp only at hT ⊢
 have Hm1 : Hid (More w w1) := ((More.refl _).alloc _ _).trans m1
 have Hp1 : Hid (Blk w1 w.heap.size #[.slice ra rl rc, .slice ca cl cc] 25) := (Blk.last _ _ _).more m1
 have HT : Hid (Told p (f1, f2)) := hT
 clear m1 hT C1
 by_cases h0 : f1 = 0
 ·subst h0
  obtain ⟨hok, lk, hk, hk0⟩ := HT.out.ok rfl
  have HO : Hid (p.Ok 200 8 ∧ Known p lk ∧ (checkK p lk).1 = 0) := ⟨hok, hk, hk0⟩
  clear hok hk hk0 HT
  have c0 : w1.cell? ⟨w.heap.size, 0, none⟩ = some (.slice ra rl rc) := Hp1.out.cell rfl
  have c1 : w1.cell? ⟨w.heap.size, 1, none⟩ = some (.slice ca cl cc) := Hp1.out.cell rfl
  have z1 := Hp1.out.lt
  by_cases hA : FA
  ·have CF1 : Hid (∀ w1 : World, More w w1 → Calls Try.prog 12 #[.agg #[.slice ra rl rc, .slice ca cl cc], mv] w1 fun e w' => e = .returned (.bool true) ∧ More w1 w') := CF.out true ⟨fun _ => hA, fun _ => rfl⟩
   clear CF
   go_wp2_with (fail)
   refine (CF1.out _ (Hm1.out.alloc _ _)).mono ?_
   rintro e w2 ⟨rfl, m2⟩
   have Hm2 : Hid (More w w2) := (Hm1.out.alloc _ _).trans m2
   have Hp2 : Hid (Blk w2 w.heap.size #[.slice ra rl rc, .slice ca cl cc] 25) := (Hp1.out.alloc _ _).more m2
   clear m2 c0 c1 z1 CF1
   have c0 : w2.cell? ⟨w.heap.size, 0, none⟩ = some (.slice ra rl rc) := Hp2.out.cell rfl
   have c1 : w2.cell? ⟨w.heap.size, 1, none⟩ = some (.slice ca cl cc) := Hp2.out.cell rfl
   by_cases hf0 : fuel < 0
   ·have d0 : decide (fuel < 0) = true := by simp [hf0]
    have Hend : Hid (P (.returned (.bool true)) w2) := HP.out _ Hm2.out
    clear CP CK CH HS HP
    go_wp2
    exact Hend.out
   have d0 : decide (fuel < 0) = false := by simp; omega
   by_cases hf1 : 1000 < fuel
   ·have d1 : decide (1000 < fuel) = true := by simp [hf1]
    have Hend : Hid (P (.returned (.bool true)) w2) := HP.out _ Hm2.out
    clear CP CK CH HS HP
    go_wp2
    exact Hend.out
   have d1 : decide (1000 < fuel) = false := by simp; omega
   have hw1 : wrap64 (4 * fuel) = 4 * fuel := by unfold wrap64; omega
   have hw2 : wrap64 (4 * fuel + 4) = 4 * fuel + 4 := by unfold wrap64; omega
   have hv1 : IntKind.i64.wrap (4 * fuel) = 4 * fuel := by rw [IntKind.wrap_i64]; omega
   have hv2 : IntKind.i64.wrap (4 * fuel + 4) = 4 * fuel + 4 := by rw [IntKind.wrap_i64]; omega
   have CK1 := CK.out HO.out.1 lk HO.out.2.1 HO.out.2.2
   have CK2 : Hid (∀ w1 : World, More w w1 → Calls Try.prog 6 #[.agg #[.slice ra rl rc, .slice ca cl cc]] w1 fun e w' => ∃ (h : Prg) (lh : Loc), Q h ∧ PIn w' h lh ∧ e = .returned (.tuple #[.agg #[.slice lh.ra h.rl lh.rc, .slice lh.ca h.cl lh.cc], .agg #[.int .i64 0, .int .i64 0]]) ∧ More w1 w') := CK1
   clear CK CK1
   go_wp2_with (fail)
   refine (CK2.out _ Hm2.out).mono ?_
   rintro e w3 ⟨h, lh, hq, hin, rfl, m3⟩
   have CH1 : Hid (∀ w1 : World, More w w1 → PIn w1 h lh → _) := CH.out h lh hq HO.out.1 hA (by omega) (by omega)
   have HS1 := HS.out h hq hA (by omega)
   have HS2 : Hid (∀ u v w1, ShownAt w1 u (playI h m (4 * fuel.toNat + 4)) → ShownAt w1 v (playI p m fuel.toNat) → Calls Try.prog 14 #[u, v] w1 fun e w' => e = .returned (.bool true) ∧ More w1 w') := HS1
   have CP1 : Hid (∀ w1 : World, More w w1 → Calls Try.prog 13 #[.agg #[.slice ra rl rc, .slice ca cl cc], mv, .int .i64 fuel] w1 fun e w' => ∃ v, e = .returned v ∧ ShownAt w' v (playI p m fuel.toNat) ∧ More w1 w') := CP.out HO.out.1 hA (by omega)
   clear CH HS HS1 CP
   have Hm3 : Hid (More w w3) := Hm2.out.trans m3
   have Hp3 : Hid (Blk w3 w.heap.size #[.slice ra rl rc, .slice ca cl cc] 25) := Hp2.out.more m3
   have Hin3 : Hid (PIn w3 h lh) := hin
   obtain ⟨ra', Hra'⟩ : ∃ x, Hid (lh.ra = x) := ⟨_, rfl⟩
   obtain ⟨rl', Hrl'⟩ : ∃ x, Hid (h.rl = x) := ⟨_, rfl⟩
   obtain ⟨rc', Hrc'⟩ : ∃ x, Hid (lh.rc = x) := ⟨_, rfl⟩
   obtain ⟨ca', Hca'⟩ : ∃ x, Hid (lh.ca = x) := ⟨_, rfl⟩
   obtain ⟨cl', Hcl'⟩ : ∃ x, Hid (h.cl = x) := ⟨_, rfl⟩
   obtain ⟨cc', Hcc'⟩ : ∃ x, Hid (lh.cc = x) := ⟨_, rfl⟩
   rw [Hra'.out, Hrl'.out, Hrc'.out, Hca'.out, Hcl'.out, Hcc'.out] at CH1 ⊢
   clear hin hq m3 c0 c1 CK2
   have c0 : w3.cell? ⟨w.heap.size, 0, none⟩ = some (.slice ra rl rc) := Hp3.out.cell rfl
   have c1 : w3.cell? ⟨w.heap.size, 1, none⟩ = some (.slice ca cl cc) := Hp3.out.cell rfl
   have z3 := Hp3.out.lt
   obtain ⟨w4, Hw4⟩ : ∃ w_ : World, Hid (w_ = (w3.alloc (.cells #[.slice ra' rl' rc', .slice ca' cl' cc'] 25)).alloc (.cells #[.int .i64 0, .int .i64 0] 28)) := ⟨_, rfl⟩
   have Hm4 : Hid (More w3 w4) := by rw [Hw4.out]; exact ((More.refl _).alloc _ _).alloc _ _
   have Hb4 : Hid (Blk w4 w3.heap.size #[.slice ra' rl' rc', .slice ca' cl' cc'] 25) := by rw [Hw4.out]; exact (Blk.last _ _ _).alloc _ _
   go_wp2_with (fail)
   rw [← Hw4.out]
   refine (CH1.out w4 (Hm3.out.trans Hm4.out) (Hin3.out.more Hm4.out)).1.mono ?_
   rintro e w5 ⟨rfl, m5⟩
   have Hm5 : Hid (More w3 w5) := Hm4.out.trans m5
   have Hb5 : Hid (Blk w5 w3.heap.size #[.slice ra' rl' rc', .slice ca' cl' cc'] 25) := Hb4.out.more m5
   have Hp5 : Hid (Blk w5 w.heap.size #[.slice ra rl rc, .slice ca cl cc] 25) := Hp3.out.more Hm5.out
   clear m5 c0 c1 z3
   have c0 : w5.cell? ⟨w.heap.size, 0, none⟩ = some (.slice ra rl rc) := Hp5.out.cell rfl
   have c1 : w5.cell? ⟨w.heap.size, 1, none⟩ = some (.slice ca cl cc) := Hp5.out.cell rfl
   have b0 : w5.cell? ⟨w3.heap.size, 0, none⟩ = some (.slice ra' rl' rc') := Hb5.out.cell rfl
   have b1 : w5.cell? ⟨w3.heap.size, 1, none⟩ = some (.slice ca' cl' cc') := Hb5.out.cell rfl
   go_wp2_with (fail)
   refine (CH1.out w5 (Hm3.out.trans Hm5.out) (Hin3.out.more Hm5.out)).2.1.mono ?_
   rintro e w6 ⟨rfl, m6⟩
   have Hm6 : Hid (More w3 w6) := Hm5.out.trans m6
   have Hb6 : Hid (Blk w6 w3.heap.size #[.slice ra' rl' rc', .slice ca' cl' cc'] 25) := Hb5.out.more m6
   have Hp6 : Hid (Blk w6 w.heap.size #[.slice ra rl rc, .slice ca cl cc] 25) := Hp5.out.more m6
   clear m6 c0 c1 b0 b1
   have c0 : w6.cell? ⟨w.heap.size, 0, none⟩ = some (.slice ra rl rc) := Hp6.out.cell rfl
   have c1 : w6.cell? ⟨w.heap.size, 1, none⟩ = some (.slice ca cl cc) := Hp6.out.cell rfl
   go_wp2_with (fail)
   refine (CP1.out w6 (Hm3.out.trans Hm6.out)).mono ?_
   rintro e w7 ⟨v, rfl, hv, m7⟩
   have hv0 := hv
   obtain ⟨sv, lv, rfl, hv1, hv2⟩ := hv
   obtain ⟨sa, sb, so, sc, rfl, _⟩ := hv1
   obtain ⟨x1, hx1⟩ : ∃ x, (playI p m fuel.toNat).fin = x := ⟨_, rfl⟩
   obtain ⟨x2, hx2⟩ : ∃ x, (playI p m fuel.toNat).val = x := ⟨_, rfl⟩
   obtain ⟨x3, hx3⟩ : ∃ x, (playI p m fuel.toNat).steps = x := ⟨_, rfl⟩
   obtain ⟨x4, hx4⟩ : ∃ x, (playI p m fuel.toNat).seen.length = x := ⟨_, rfl⟩
   obtain ⟨x5, hx5⟩ : ∃ x, (playI p m fuel.toNat).mem.ml = x := ⟨_, rfl⟩
   rw [hx1, hx2, hx3, hx4, hx5] at hv0 ⊢
   have Hm7 : Hid (More w3 w7) := Hm6.out.trans m7
   have Hb7 : Hid (Blk w7 w3.heap.size #[.slice ra' rl' rc', .slice ca' cl' cc'] 25) := Hb6.out.more m7
   obtain ⟨w8, Hw8⟩ : ∃ w_ : World, Hid (w_ = w7.alloc (.cells #[.int .i64 x1, .int .i64 x2, .int .i64 x3, .slice sa x4 sc, .slice lv.ma x5 lv.mc] 39)) := ⟨_, rfl⟩
   have Hm8 : Hid (More w7 w8) := Hw8.out ▸ (More.refl _).alloc _ _
   have Hv : Hid (ShownAt w7 (.agg #[.int .i64 x1, .int .i64 x2, .int .i64 x3, .slice sa x4 sc, .slice lv.ma x5 lv.mc]) (playI p m fuel.toNat)) := hv0
   have Hc8 : Hid (Blk w8 w7.heap.size #[.int .i64 x1, .int .i64 x2, .int .i64 x3, .slice sa x4 sc, .slice lv.ma x5 lv.mc] 39) := Hw8.out ▸ Blk.last _ _ _
   clear hv0 hv2 m7 hx1 hx2 hx3 hx4 hx5 c0 c1
   have b0 : w7.cell? ⟨w3.heap.size, 0, none⟩ = some (.slice ra' rl' rc') := Hb7.out.cell rfl
   have b1 : w7.cell? ⟨w3.heap.size, 1, none⟩ = some (.slice ca' cl' cc') := Hb7.out.cell rfl
   have z7 := Hb7.out.lt
   go_wp2_with (fail)
   rw [← Hw8.out]
   refine (CH1.out w8 (Hm3.out.trans (Hm7.out.trans Hm8.out)) (Hin3.out.more (Hm7.out.trans Hm8.out))).2.2.mono ?_
   rintro e w9 ⟨u, rfl, hu, m9⟩
   have hu0 := hu
   obtain ⟨su, lu, rfl, hu1, hu2⟩ := hu
   obtain ⟨ta, tb, to_, tc, rfl, _⟩ := hu1
   obtain ⟨y1, hy1⟩ : ∃ x, (playI h m (4 * fuel.toNat + 4)).fin = x := ⟨_, rfl⟩
   obtain ⟨y2, hy2⟩ : ∃ x, (playI h m (4 * fuel.toNat + 4)).val = x := ⟨_, rfl⟩
   obtain ⟨y3, hy3⟩ : ∃ x, (playI h m (4 * fuel.toNat + 4)).steps = x := ⟨_, rfl⟩
   obtain ⟨y4, hy4⟩ : ∃ x, (playI h m (4 * fuel.toNat + 4)).seen.length = x := ⟨_, rfl⟩
   obtain ⟨y5, hy5⟩ : ∃ x, (playI h m (4 * fuel.toNat + 4)).mem.ml = x := ⟨_, rfl⟩
   rw [hy1, hy2, hy3, hy4, hy5] at hu0 ⊢
   obtain ⟨wa, Hwa⟩ : ∃ w_ : World, Hid (w_ = w9.alloc (.cells #[.int .i64 y1, .int .i64 y2, .int .i64 y3, .slice ta y4 tc, .slice lu.ma y5 lu.mc] 39)) := ⟨_, rfl⟩
   have Hma : Hid (More w9 wa) := Hwa.out ▸ (More.refl _).alloc _ _
   have HMa : Hid (More w wa) := (Hm3.out.trans (Hm7.out.trans Hm8.out)).trans (m9.trans Hma.out)
   have CS : Hid (Calls Try.prog 14 #[.agg #[.int .i64 y1, .int .i64 y2, .int .i64 y3, .slice ta y4 tc, .slice lu.ma y5 lu.mc], .agg #[.int .i64 x1, .int .i64 x2, .int .i64 x3, .slice sa x4 sc, .slice lv.ma x5 lv.mc]] wa fun e w' => e = .returned (.bool true) ∧ More wa w') :=
    HS2.out _ _ wa (hu0.more Hma.out) (Hv.out.more (Hm8.out.trans (m9.trans Hma.out)))
   have Hc9 : Hid (Blk w9 w7.heap.size #[.int .i64 x1, .int .i64 x2, .int .i64 x3, .slice sa x4 sc, .slice lv.ma x5 lv.mc] 39) := Hc8.out.more m9
   clear hu0 hu2 m9 hy1 hy2 hy3 hy4 hy5 b0 b1 z7 CH1 CP1 HS2
   have a0 : w9.cell? ⟨w7.heap.size, 0, none⟩ = some (.int .i64 x1) := Hc9.out.cell rfl
   have a1 : w9.cell? ⟨w7.heap.size, 1, none⟩ = some (.int .i64 x2) := Hc9.out.cell rfl
   have a2 : w9.cell? ⟨w7.heap.size, 2, none⟩ = some (.int .i64 x3) := Hc9.out.cell rfl
   have a3 : w9.cell? ⟨w7.heap.size, 3, none⟩ = some (.slice sa x4 sc) := Hc9.out.cell rfl
   have a4 : w9.cell? ⟨w7.heap.size, 4, none⟩ = some (.slice lv.ma x5 lv.mc) := Hc9.out.cell rfl
   have z9 := Hc9.out.lt
   go_wp2_with (fail)
   rw [← Hwa.out]
   refine CS.out.mono ?_
   rintro e wz ⟨rfl, mz⟩
   have Hend : Hid (P (.returned (.bool true)) wz) := HP.out _ (HMa.out.trans mz)
   clear mz CS a0 a1 a2 a3 a4
   go_wp2
   exact Hend.out
  ·have CF1 : Hid (∀ w1 : World, More w w1 → Calls Try.prog 12 #[.agg #[.slice ra rl rc, .slice ca cl cc], mv] w1 fun e w' => e = .returned (.bool false) ∧ More w1 w') := CF.out false ⟨fun q => absurd q (by simp), fun q => absurd q hA⟩
   clear CF CP CK CH HS
   go_wp2_with (fail)
   refine (CF1.out _ (Hm1.out.alloc _ _)).mono ?_
   rintro e w2 ⟨rfl, m2⟩
   have Hend : Hid (P (.returned (.bool true)) w2) := HP.out _ ((Hm1.out.alloc _ _).trans m2)
   clear m2 CF1
   go_wp2
   exact Hend.out
 ·have e0 : (f1 == 0) = false := by simp [h0]
  have e1 : (f1 != 0) = true := by simp [h0]
  have Hend : Hid (∀ w', More w1 w' → P (.returned (.bool true)) w') := fun w' m' => HP.out _ (Hm1.out.trans m')
  clear h0 CF CP CK CH HS HT
  go_wp2
  exact Hend.out _ ((More.refl _).alloc _ _)
end
section
open Go.RowKit
set_option linter.unusedVariables false
/-- A place: the next instruction, registers, words, what each was (the eldest first). -/
structure Pl where
 at_ : Nat
 r : Nat → Int
 wd : Nat → Int
 past : Nat → List Int
end
section
open Go.RowKit
set_option linter.unusedSimpArgs false
set_option linter.unusedVariables false
theorem wordsI_pos (l : Int) : 1 ≤ wordsI l := by
 unfold wordsI
 have : (0 : Int) < 2 ^ l.toNat := Int.pow_pos (by decide)
 omega
/-- Where a run that is ahead of time is taken back at once. -/
def Stop (p : Prg) (k : Nat) : Prop := p.cl ≤ k ∨ (p.ins k).op = 9 ∨ (p.ins k).op = 12
def rightI (p : Prg) (k : Nat) (r : Nat → Int) : Nat := if holdsI (p.ins k).c (r (p.ins k).a.toNat) (r (p.ins k).b.toNat) = true then (p.ins k).n.toNat else k + 1
def otherI (p : Prg) (k : Nat) (r : Nat → Int) : Nat := if holdsI (p.ins k).c (r (p.ins k).a.toNat) (r (p.ins k).b.toNat) = true then k + 1 else (p.ins k).n.toNat

/-- What is a secret where an instruction is come to, and what holds of the registers there, whatever was guessed: what is shown is no secret; no index leaves its region; a word of a secret region is a secret. Who goes the wrong way is told no less, or is taken back at once. -/
structure Tight (p : Prg) (W : Int → Prop) (lab : Nat → Nat → Bool) (I : Nat → (Nat → Int) → Prop) : Prop where
 regs : RegionsOk p.rl p.log
 zero : W 0
 jump : ∀ k, k < p.cl → (p.ins k).op = 7 → ∀ r, I k r → (∀ j, j < 10 → lab k j = true → lab (p.ins k).n.toNat j = true) ∧ I (p.ins k).n.toNat r
 cond : ∀ k, k < p.cl → (p.ins k).op = 8 → ∀ r, I k r → (p.ins k).a.toNat < 10 ∧ (p.ins k).b.toNat < 10 ∧ lab k (p.ins k).a.toNat = false ∧ lab k (p.ins k).b.toNat = false ∧
  (∀ j, j < 10 → lab k j = true → lab (p.ins k).n.toNat j = true ∧ lab (k + 1) j = true) ∧ I (rightI p k r) r ∧ (I (otherI p k r) r ∨ Stop p (otherI p k r))
 halt : ∀ k, k < p.cl → (p.ins k).op = 9 → ∀ r, I k r → (p.ins k).a.toNat < 10 ∧ lab k (p.ins k).a.toNat = false
 fence : ∀ k, k < p.cl → (p.ins k).op = 12 → ∀ r, I k r → (∀ j, j < 10 → lab k j = true → lab (k + 1) j = true) ∧ I (k + 1) r
 word : ∀ k, k < p.cl → 0 ≤ putI (p.ins k) → ∀ r, I k r → (p.ins k).c.toNat < p.rl ∧ (p.ins k).a.toNat < 10 ∧ (0 ≤ idxI r (p.ins k) ∧ idxI r (p.ins k) < wordsI (p.log (p.ins k).c.toNat)) ∧ (∀ t, (∀ j, j < 10 → lab k j = false → r j = t j) → idxI r (p.ins k) = idxI t (p.ins k))
 load : ∀ k, k < p.cl → putI (p.ins k) = 0 → ∀ r, I k r → (∀ j, j < 10 → j ≠ (p.ins k).a.toNat → lab k j = true → lab (k + 1) j = true) ∧ (p.sec (p.ins k).c.toNat = true → lab (k + 1) (p.ins k).a.toNat = true) ∧ ∀ v, W v → I (k + 1) (setR r (p.ins k).a v)
 put : ∀ k, k < p.cl → putI (p.ins k) = 1 → ∀ r, I k r → (∀ j, j < 10 → lab k j = true → lab (k + 1) j = true) ∧ (lab k (p.ins k).a.toNat = true → p.sec (p.ins k).c.toNat = true) ∧ I (k + 1) r
 kept : ∀ k, k < p.cl → putI (p.ins k) = 1 → ∀ r, I k r → W (r (p.ins k).a.toNat)
 op : ∀ k, k < p.cl → ¬ (p.ins k).op = 7 → ¬ (p.ins k).op = 8 → ¬ (p.ins k).op = 9 → ¬ (p.ins k).op = 12 → ¬ 0 ≤ putI (p.ins k) → ∀ r, I k r →
  (∀ t, (∀ j, j < 10 → lab k j = false → r j = t j) → (regsI r (p.ins k)).2 = (regsI t (p.ins k)).2 ∧ ∀ j, j < 10 → lab (k + 1) j = false → (regsI r (p.ins k)).1 j = (regsI t (p.ins k)).1 j) ∧ I (k + 1) (regsI r (p.ins k)).1

section
variable {p : Prg} {W : Int → Prop} {lab : Nat → Nat → Bool} {I : Nat → (Nat → Int) → Prop}

/-- Two runs of it, with the same public words, show the same. -/
def Still (h : Prg) : Prop := ∃ W lab I, (∀ x, B64 x → W x) ∧ Tight h W lab I ∧ I 0 (fun _ => 0)
end
end
section
open Go.RowKit
set_option linter.unusedVariables false
/-- The same, of what is no secret. -/
def EqS (k : KS) (r t : Nat → Int) : Prop := ∀ j, j < 8 → (k j).s = false → r j = t j
theorem EqS.mono {k u : KS} (h : leS k u) {r t : Nat → Int} (q : EqS k r t) : EqS u r t := fun j hj hs => q j hj (by
 cases e : (k j).s
 ·rfl
 ·rw [(h j hj).2 e] at hs; cases hs)
theorem EqS.set {k : KS} {r t : Nat → Int} (h : EqS k r t) (a : Int) {v : Kn} {x y : Int} (q : v.s = false → x = y) : EqS (setK k a v) (setR r a x) (setR t a y) := fun j hj hs => by
 unfold setK at hs
 unfold setR
 by_cases e : j = a.toNat
 ·rw [if_pos e] at hs; rw [if_pos e, if_pos e]; exact q hs
 ·rw [if_neg e] at hs; rw [if_neg e, if_neg e]; exact h j hj hs
theorem EqS.know {k : KS} {r t : Nat → Int} (h : EqS k r t) (a : Int) {v : Kn} (q : v.s = false → r a.toNat = t a.toNat) : EqS (setK k a v) r t := fun j hj hs => by
 unfold setK at hs
 by_cases e : j = a.toNat
 ·rw [if_pos e] at hs; rw [e]; exact q hs
 ·rw [if_neg e] at hs; exact h j hj hs

section
variable {p : Prg} {m m' : Mem} {l : KV} {s t : St}

theorem index_s (k : Kn) (n : Int) : (Kn.index k n).s = k.s := by unfold Kn.index; split <;> simp [Kn.op, Kn.of]

/-- An instruction of registers alone: what is no secret behind it is the same, and so is what it shows. -/
theorem eq_regs {i : Ins} {k : KS} {r t : Nat → Int} (hi : InsOk p.rl p.log p.cl 8 i) (h3 : ¬ i.op = 3) (h4 : ¬ i.op = 4) (h5 : ¬ i.op = 5) (h6 : ¬ i.op = 6) (h7 : ¬ i.op = 7) (h8 : ¬ i.op = 8) (h9 : ¬ i.op = 9)
  (hs : secretK p i k = false) (h : EqS k r t) : EqS (nextK p i k) (regsI r i).1 (regsI t i).1 ∧ (regsI r i).2 = (regsI t i).2 := by
 have hg := regs_of hi
 unfold nextK regsI
 by_cases q1 : i.op = 1
 ·rw [if_pos q1, if_pos q1, if_pos q1]; exact ⟨h.set _ (fun _ => rfl), rfl⟩
 rw [if_neg q1, if_neg q1, if_neg q1]
 by_cases q2 : i.op = 2
 ·rw [if_pos q2, if_pos q2, if_pos q2]; exact ⟨h.set _ (fun q => h _ (hg.2.1 (by omega)) q), rfl⟩
 rw [if_neg q2, if_neg q2, if_neg q2]
 by_cases q10 : i.op = 10
 ·rw [if_pos q10, if_pos q10, if_pos q10]
  exact ⟨h.set _ (fun q => by rw [index_s] at q; rw [h _ (hg.2.1 (by omega)) q]), rfl⟩
 rw [if_neg q10, if_neg q10, if_neg q10, if_neg (by omega)]
 by_cases q11 : i.op = 11
 ·rw [if_pos q11, if_pos q11, if_pos q11]
  have ha := hg.1 (by omega)
  refine ⟨?_, rfl⟩
  dsimp only
  cases es : (k i.a.toNat).s
  ·have ee := h _ ha es
   rw [← ee]
   split
   ·exact h.set _ (fun _ => rfl)
   ·exact h.know _ (fun _ => ee)
  ·intro j hj hjs
   unfold setK at hjs
   by_cases e : j = i.a.toNat
   ·rw [if_pos e] at hjs; unfold Kn.less at hjs; dsimp only at hjs; rw [es] at hjs; cases hjs
   ·rw [if_neg e] at hjs
    have := h j hj hjs
    have hs1 : ∀ (r : Nat → Int) (c : Prop) [Decidable c], (if c then setR r i.a 0 else r) j = r j := fun r c _ => by
     split
     ·unfold setR; rw [if_neg e]
     ·rfl
    rw [hs1, hs1]; exact this
 rw [if_neg q11, if_neg q11, if_neg q11]
 by_cases q12 : i.op = 12
 ·rw [if_pos (.inr (.inr q12)), if_pos q12, if_pos q12]; exact ⟨h, rfl⟩
 rw [if_neg (by omega), if_neg q12, if_neg q12]
 have hb := hg.2.1 (by omega); have hc := hg.2.2.1 (by omega)
 have key : (Kn.op (i.op - 20) (k i.b.toNat) (k i.c.toNat)).s = false → r i.b.toNat = t i.b.toNat ∧ r i.c.toNat = t i.c.toNat := fun q => by
  have := Bool.or_eq_false_iff.1 q
  exact ⟨h _ hb this.1, h _ hc this.2⟩
 refine ⟨h.set _ (fun q => by rw [(key q).1, (key q).2]), ?_⟩
 dsimp only
 by_cases q : i.op = 29 ∨ i.op = 30
 ·rw [if_pos q, if_pos q]
  unfold secretK at hs
  rw [if_neg h3, if_neg h4, if_neg h6, if_neg h8, if_pos q] at hs
  rw [(key hs).1, (key hs).2]
 ·rw [if_neg q, if_neg q]

end
end
section
open Go.RowKit
set_option linter.unusedSimpArgs false
set_option linter.unusedVariables false
section
variable {p h : Prg} {st : Nat → Nat} {X : Int} {l : KV}

variable {lab : Nat → Nat → Bool}
theorem less_s (x y : Kn) : (Kn.less x y).s = x.s := rfl
theorem setK_s {s : KS} {a : Int} {v : Kn} (hv : v.s = (s a.toNat).s) (j : Nat) : (setK s a v j).s = (s j).s := by
 unfold setK
 split
 ·rename_i e; rw [e]; exact hv
 ·rfl
theorem first_s (i : Ins) (s : KS) (j : Nat) : (firstK i s j).s = (s j).s := setK_s (less_s _ _) j
theorem second_s (i : Ins) (s : KS) (j : Nat) : (secondK i s j).s = (s j).s := setK_s (less_s _ _) j
theorem both_s (i : Ins) (s : KS) (j : Nat) : (bothK i s j).s = (s j).s := by
 unfold bothK
 rw [setK_s (by rw [less_s]; exact (first_s i s _).symm) j, first_s]
theorem yes_s (i : Ins) (s : KS) (j : Nat) : (yesK i s j).s = (s j).s := by
 unfold yesK
 split
 ·exact both_s i s j
 split
 ·rfl
 split
 ·exact first_s i s j
 ·exact second_s i s j
theorem no_s (i : Ins) (s : KS) (j : Nat) : (noK i s j).s = (s j).s := by
 unfold noK
 split
 ·rfl
 split
 ·exact both_s i s j
 split
 ·exact second_s i s j
 ·exact first_s i s j

/-- A checked program that is come to there. -/
structure Here (p : Prg) (l : KV) (k : Nat) (s : KS) : Prop where
 at_ : k < p.cl
 e : l k = some s
 ins : InsOk p.rl p.log p.cl 8 (p.ins k)
 out : outK p k = false
 bound : boundK p (p.ins k) s = false
 secret : secretK p (p.ins k) s = false
 leads : ∀ x ∈ leadsK p k s, x.1 < p.cl → ∃ u, l x.1 = some u ∧ leS x.2 u
theorem here_of (ok : p.Ok 200 8) (hk : Known p l) (hc : (checkK p l).1 = 0) {k : Nat} {s : KS} (ha : k < p.cl) (e : l k = some s) : Here p l k s := by
 have hf := check_ok hc ha e
 have : (outK p k || boundK p (p.ins k) s) = false ∧ secretK p (p.ins k) s = false := by
  unfold faultK at hf
  cases h1 : (outK p k || boundK p (p.ins k) s)
  ·cases h2 : secretK p (p.ins k) s
   ·exact ⟨rfl, rfl⟩
   ·rw [h1, h2] at hf; simp at hf
  ·rw [h1] at hf; simp at hf
 have h1 := Bool.or_eq_false_iff.1 this.1
 exact ⟨ha, e, ok.2.2.2 k ha, h1.1, h1.2, this.2, hk.closed.leads k s ha e⟩
/-- What goes on with the next one leads to one that is there. -/
theorem Here.next {k : Nat} {s : KS} (H : Here p l k s) (h7 : ¬ (p.ins k).op = 7) (h9 : ¬ (p.ins k).op = 9) : k + 1 < p.cl := by
 have := H.out
 unfold outK at this
 simp [h7, h9] at this
 omega
theorem Here.plain {k : Nat} {s : KS} (H : Here p l k s) (h7 : ¬ (p.ins k).op = 7) (h8 : ¬ (p.ins k).op = 8) (h9 : ¬ (p.ins k).op = 9) : ∃ u, l (k + 1) = some u ∧ leS (nextK p (p.ins k) s) u := by
 have := H.leads (k + 1, nextK p (p.ins k) s) (by unfold leadsK; rw [if_neg h7, if_neg h9, if_neg h8]; simp) (H.next h7 h9)
 exact this

theorem regs_high {i : Ins} (ha : i.a.toNat < 8) (r : Nat → Int) (j : Nat) (hj : 8 ≤ j) : (regsI r i).1 j = r j := by
 have hs : ∀ v, setR r i.a v j = r j := fun v => by unfold setR; rw [if_neg (by omega)]
 unfold regsI
 split
 ·exact hs _
 split
 ·exact hs _
 split
 ·exact hs _
 split
 ·dsimp only; split
  ·exact hs _
  ·rfl
 split
 ·rfl
 ·exact hs _

end
end
section
open Go.RowKit
set_option linter.unusedSectionVars false
set_option linter.unusedSimpArgs false
set_option linter.unusedVariables false
/-- How many instructions one becomes: an IFence ahead of it, itself, an IFence behind it. -/
def sizeF (pre post : Nat → Bool) (k : Nat) : Nat := (pre k).toNat + 1 + (post k).toNat
def fenceI : Ins := ⟨12, 0, 0, 0, 0⟩

/-- IFences ahead of some instructions and behind some, and so on both ways behind each IIf; what leads elsewhere leads to where that is now, ahead of its IFence. -/
structure Fnc (p h : Prg) (st : Nat → Nat) (pre post : Nat → Bool) : Prop where
 rl : p.rl = h.rl
 reg : ∀ i, i < p.rl → p.log i = h.log i ∧ p.sec i = h.sec i
 s0 : st 0 = 0
 next : ∀ k, k < p.cl → st (k + 1) = st k + sizeF pre post k
 cl : h.cl = st p.cl
 ahead : ∀ k, k < p.cl → pre k = true → h.ins (st k) = fenceI
 behind : ∀ k, k < p.cl → post k = true → h.ins (st k + (pre k).toNat + 1) = fenceI
 go : ∀ k, k < p.cl → (p.ins k).op = 7 ∨ (p.ins k).op = 8 → h.ins (st k + (pre k).toNat) = ⟨(p.ins k).op, (p.ins k).a, (p.ins k).b, (p.ins k).c, (st (p.ins k).n.toNat : Int)⟩
 copy : ∀ k, k < p.cl → ¬ ((p.ins k).op = 7 ∨ (p.ins k).op = 8) → h.ins (st k + (pre k).toNat) = p.ins k
 both : ∀ k, k < p.cl → (p.ins k).op = 8 → (pre (p.ins k).n.toNat = true ∨ (p.ins (p.ins k).n.toNat).op = 12) ∧ (post k = true ∨ pre (k + 1) = true ∨ (p.ins (k + 1)).op = 12)

theorem bool_nat (b : Bool) : (b = true ∧ b.toNat = 1) ∨ (b = false ∧ b.toNat = 0) := by cases b <;> simp
theorem sizeF_pos (pre post : Nat → Bool) (k : Nat) : 1 ≤ sizeF pre post k ∧ sizeF pre post k ≤ 3 := by
 unfold sizeF
 rcases bool_nat (pre k) with ⟨_, a⟩ | ⟨_, a⟩ <;> rcases bool_nat (post k) with ⟨_, b⟩ | ⟨_, b⟩ <;> omega

section
variable {p h : Prg} {st : Nat → Nat} {pre post : Nat → Bool} {l : KV}

theorem Fnc.mono (S : Fnc p h st pre post) : ∀ (b a : Nat), a < b → b ≤ p.cl → st a + sizeF pre post a ≤ st b
 | 0, a, h1, _ => absurd h1 (Nat.not_lt_zero _)
 | b + 1, a, h1, h2 => by
  have e := S.next b (by omega)
  have := (sizeF_pos pre post b).1
  by_cases q : a = b
  ·subst q; omega
  ·have := S.mono b a (by omega) (by omega); omega
theorem Fnc.uniq (S : Fnc p h st pre post) {k k' o o' : Nat} (hk : k < p.cl) (hk' : k' < p.cl) (ho : o < sizeF pre post k) (ho' : o' < sizeF pre post k') (e : st k + o = st k' + o') : k = k' ∧ o = o' := by
 rcases Nat.lt_trichotomy k k' with q | q | q
 ·have := S.mono k' k q (by omega); omega
 ·subst q; exact ⟨rfl, by omega⟩
 ·have := S.mono k k' q (by omega); omega

/-- Which instruction is the next one there. -/
def nxF (pre : Nat → Bool) (k o : Nat) : Nat := if o ≤ (pre k).toNat then k else k + 1
def PosF (p : Prg) (st : Nat → Nat) (pre post : Nat → Bool) (q n : Nat) : Prop := n < p.cl ∧ ∃ k o, k < p.cl ∧ o < sizeF pre post k ∧ q = st k + o ∧ n = nxF pre k o
theorem pos_one (S : Fnc p h st pre post) {q n n' : Nat} (a : PosF p st pre post q n) (b : PosF p st pre post q n') : n = n' := by
 obtain ⟨_, k, o, a1, a2, a3, a4⟩ := a
 obtain ⟨_, k', o', b1, b2, b3, b4⟩ := b
 obtain ⟨rfl, rfl⟩ := S.uniq a1 b1 a2 b2 (a3.symm.trans b3)
 rw [a4, b4]
theorem pos_st {n : Nat} (hn : n < p.cl) : PosF p st pre post (st n) n := ⟨hn, n, 0, hn, (sizeF_pos pre post n).1, rfl, by unfold nxF; rw [if_pos (Nat.zero_le _)]⟩

/-- An IFence stands ahead of it, or it is one. -/
theorem Fnc.stop (S : Fnc p h st pre post) {k : Nat} (hk : k < p.cl) (f : pre k = true ∨ (p.ins k).op = 12) : Stop h (st k) := by
 cases c : pre k with
 | true => exact .inr (.inr (by rw [S.ahead k hk c]; rfl))
 | false =>
  rw [c] at f
  have f12 : (p.ins k).op = 12 := by simpa using f
  have e := S.copy k hk (by omega)
  rw [c] at e
  exact .inr (.inr (by rw [show st k = st k + false.toNat from rfl, e]; exact f12))

/-- What stands there: an IFence, or what the instruction has become. -/
theorem pos_cases (S : Fnc p h st pre post) {q n : Nat} (a : PosF p st pre post q n) :
  (h.ins q = fenceI ∧ PosF p st pre post (q + 1) n) ∨
  (((((p.ins n).op = 7 ∨ (p.ins n).op = 8) ∧ h.ins q = ⟨(p.ins n).op, (p.ins n).a, (p.ins n).b, (p.ins n).c, (st (p.ins n).n.toNat : Int)⟩) ∨ (¬ ((p.ins n).op = 7 ∨ (p.ins n).op = 8) ∧ h.ins q = p.ins n)) ∧
   (n + 1 < p.cl → PosF p st pre post (q + 1) (n + 1) ∧ ((p.ins n).op = 8 → Stop h (q + 1)))) := by
 obtain ⟨hn, k, o, a1, a2, rfl, a4⟩ := a
 have e := S.next k a1
 have bp := bool_nat (pre k)
 have bq := bool_nat (post k)
 have sz : sizeF pre post k = (pre k).toNat + 1 + (post k).toNat := rfl
 unfold nxF at a4
 by_cases c : o ≤ (pre k).toNat
 ·rw [if_pos c] at a4
  subst a4
  by_cases d : o = (pre n).toNat
  ·right
   subst d
   refine ⟨?_, fun hn1 => ?_⟩
   ·by_cases w : (p.ins n).op = 7 ∨ (p.ins n).op = 8
    ·exact .inl ⟨w, S.go n a1 w⟩
    ·exact .inr ⟨w, S.copy n a1 w⟩
   ·rcases bq with ⟨t, u⟩ | ⟨t, u⟩
    ·refine ⟨⟨hn1, n, (pre n).toNat + 1, a1, by omega, rfl, by unfold nxF; rw [if_neg (by omega)]⟩, fun _ => .inr (.inr ?_)⟩
     rw [S.behind n a1 t]; rfl
    ·have e2 : st n + (pre n).toNat + 1 = st (n + 1) := by omega
     rw [e2]
     refine ⟨pos_st hn1, fun h8 => S.stop hn1 ?_⟩
     have := (S.both n a1 h8).2
     rw [t] at this
     simpa using this
  ·left
   rcases bp with ⟨t, u⟩ | ⟨t, u⟩
   ·obtain rfl : o = 0 := by omega
    exact ⟨S.ahead n a1 t, hn, n, 1, a1, by omega, rfl, by unfold nxF; rw [if_pos (by omega)]⟩
   ·omega
 ·rw [if_neg c] at a4
  subst a4
  left
  have u : post k = true ∧ o = (pre k).toNat + 1 := by
   rcases bq with ⟨t, u⟩ | ⟨t, u⟩
   ·exact ⟨t, by omega⟩
   ·omega
  obtain ⟨u, rfl⟩ := u
  rw [← Nat.add_assoc]
  refine ⟨S.behind k a1 u, ?_⟩
  have e2 : st k + (pre k).toNat + 1 + 1 = st (k + 1) := by rw [u] at sz; simp at sz; omega
  rw [e2]
  exact pos_st hn

/-- What holds of the registers: what is known of them. -/
def FnI (p : Prg) (st : Nat → Nat) (pre post : Nat → Bool) (l : KV) (q : Nat) (r : Nat → Int) : Prop := ∃ n s, PosF p st pre post q n ∧ l n = some s ∧ HasS s r ∧ ∀ j, j < 10 → B64 (r j)
def FnSec (p : Prg) (st : Nat → Nat) (pre post : Nat → Bool) (l : KV) (q j : Nat) : Prop := ∃ n s, PosF p st pre post q n ∧ l n = some s ∧ j < 8 ∧ (s j).s = true

variable {lab : Nat → Nat → Bool}
theorem fab_at (S : Fnc p h st pre post) (hl : ∀ q j, lab q j = true ↔ FnSec p st pre post l q j) {q n : Nat} {s : KS} (hq : PosF p st pre post q n) (e : l n = some s) (j : Nat) : lab q j = true ↔ j < 8 ∧ (s j).s = true := by
 rw [hl]
 constructor
 ·rintro ⟨n', s', h1, h4, h5, h6⟩
  obtain rfl := pos_one S hq h1
  rw [e] at h4; cases h4
  exact ⟨h5, h6⟩
 ·rintro ⟨h5, h6⟩
  exact ⟨n, s, hq, e, h5, h6⟩
theorem fab_not (S : Fnc p h st pre post) (hl : ∀ q j, lab q j = true ↔ FnSec p st pre post l q j) {q n : Nat} {s : KS} (hq : PosF p st pre post q n) (e : l n = some s) (j : Nat) : lab q j = false ↔ (j < 8 → (s j).s = false) := by
 have := fab_at S hl hq e j
 cases c : lab q j with
 | true =>
  rw [c] at this
  have t := this.1 rfl
  exact ⟨fun w => (by cases w), fun w => absurd t.2 (by rw [w t.1]; simp)⟩
 | false =>
  rw [c] at this
  refine ⟨fun _ hj => ?_, fun _ => rfl⟩
  cases q2 : (s j).s with
  | false => rfl
  | true => exact absurd (this.2 ⟨hj, q2⟩) (by simp)
theorem fagree_in (S : Fnc p h st pre post) (hl : ∀ q j, lab q j = true ↔ FnSec p st pre post l q j) {q n : Nat} {s : KS} (hq : PosF p st pre post q n) (e : l n = some s) {r t : Nat → Int} (hr : ∀ j, j < 10 → lab q j = false → r j = t j) : EqS s r t ∧ ∀ j, 8 ≤ j → j < 10 → r j = t j :=
 ⟨fun j hj c => hr j (by omega) ((fab_not S hl hq e j).2 (fun _ => c)), fun j h8 h10 => hr j h10 ((fab_not S hl hq e j).2 (fun c => by omega))⟩
theorem fagree_out (S : Fnc p h st pre post) (hl : ∀ q j, lab q j = true ↔ FnSec p st pre post l q j) {q n : Nat} {s : KS} (hq : PosF p st pre post q n) (e : l n = some s) {r t : Nat → Int} (h1 : EqS s r t) (h2 : ∀ j, 8 ≤ j → j < 10 → r j = t j) : ∀ j, j < 10 → lab q j = false → r j = t j := fun j hj c => by
 by_cases h8 : j < 8
 ·exact h1 j h8 ((fab_not S hl hq e j).1 c h8)
 ·exact h2 j (by omega) hj
theorem fab_up (S : Fnc p h st pre post) (hl : ∀ q j, lab q j = true ↔ FnSec p st pre post l q j) {q n q' n' : Nat} {s u : KS} (hq : PosF p st pre post q n) (e : l n = some s) (hq' : PosF p st pre post q' n') (e' : l n' = some u) {j : Nat} (hu : j < 8 → (s j).s = true → (u j).s = true) : lab q j = true → lab q' j = true := fun c => by
 have := (fab_at S hl hq e j).1 c
 exact (fab_at S hl hq' e' j).2 ⟨this.1, hu this.1 this.2⟩

/-- A memory of one word. -/
def memC (p : Prg) (v : Int) : Mem := ⟨p.rl, fun i => (wordsI (p.log i)).toNat, fun _ _ => v⟩
theorem memC_good (ok : p.Ok 200 8) (hn : ∀ i, i < p.cl → B64 (p.ins i).n) (hk : Known p l) (hc : (checkK p l).1 = 0) (v : Int) : Good p (memC p v) l :=
 ⟨ok, hn, ⟨ok.1, rfl, fun i _ => by have := wordsI_pos (p.log i); show ((wordsI (p.log i)).toNat : Int) = _; omega⟩, hk, hc⟩
theorem memC_sound {n : Nat} {s : KS} {r : Nat → Int} (hn : n < p.cl) (e : l n = some s) (hs : HasS s r) (hr : ∀ j, j < 10 → B64 (r j)) {v : Int} (hv : B64 v) : Sound p (memC p v) l ⟨n, r, memC p v, []⟩ :=
 ⟨hn, ⟨s, e, hs⟩, hr, rfl, fun _ => rfl, fun _ _ _ _ => hv⟩

/-- Behind a step it holds again. -/
theorem fn_step (ok : p.Ok 200 8) (hn : ∀ i, i < p.cl → B64 (p.ins i).n) (hk : Known p l) (hc : (checkK p l).1 = 0) {n : Nat} {s : KS} {r : Nat → Int} (h1 : n < p.cl) (e : l n = some s) (hs : HasS s r) (hr : ∀ j, j < 10 → B64 (r j)) {v : Int} (hv : B64 v) {s' : St} (es : stepI p ⟨n, r, memC p v, []⟩ = (s', none)) :
  s'.at_ < p.cl ∧ ∃ u, l s'.at_ = some u ∧ HasS u s'.r ∧ ∀ j, j < 10 → B64 (s'.r j) := by
 rcases (memC_good ok hn hk hc v).step (memC_sound h1 e hs hr hv) with ⟨_, _, es', _⟩ | ⟨s1, es1, S1⟩
 ·rw [es] at es'; simp at es'
 ·rw [es] at es1
  obtain ⟨rfl, _⟩ := Prod.mk.inj es1
  obtain ⟨u, eu, hu⟩ := S1.kn
  exact ⟨S1.at_, u, eu, hu, S1.r⟩
theorem fn_word (ok : p.Ok 200 8) (hn : ∀ i, i < p.cl → B64 (p.ins i).n) (hk : Known p l) (hc : (checkK p l).1 = 0) {n : Nat} {s : KS} {r : Nat → Int} (h1 : n < p.cl) (e : l n = some s) (hs : HasS s r) (hr : ∀ j, j < 10 → B64 (r j)) (hop : (p.ins n).op = 3 ∨ (p.ins n).op = 4 ∨ (p.ins n).op = 5 ∨ (p.ins n).op = 6) (v : Int) (hv : B64 v) :
  ¬ (idxI r (p.ins n) < 0 ∨ ((memC p v).len (p.ins n).c.toNat : Int) ≤ idxI r (p.ins n)) ∧ (p.ins n).c.toNat < p.rl ∧ 0 ≤ idxI r (p.ins n) ∧ idxI r (p.ins n) < wordsI (p.log (p.ins n).c.toNat) := by
 obtain ⟨w1, w2, w3⟩ := (memC_good ok hn hk hc v).word (memC_sound h1 e hs hr hv) e hs hop
 refine ⟨w1, w2, ?_⟩
 have := wordsI_pos (p.log (p.ins n).c.toNat)
 have e2 : (((memC p v).len (p.ins n).c.toNat : Nat) : Int) = wordsI (p.log (p.ins n).c.toNat) := by show ((wordsI (p.log (p.ins n).c.toNat)).toNat : Int) = _; omega
 dsimp only at w1
 rw [e2] at w1
 omega

theorem fn_jump (ok : p.Ok 200 8) (hn : ∀ i, i < p.cl → B64 (p.ins i).n) (hk : Known p l) (hc : (checkK p l).1 = 0) (S : Fnc p h st pre post) (hl : ∀ q j, lab q j = true ↔ FnSec p st pre post l q j) (q : Nat) (h7 : (h.ins q).op = 7) (r : Nat → Int) (hI : FnI p st pre post l q r) :
  (∀ j, j < 10 → lab q j = true → lab (h.ins q).n.toNat j = true) ∧ FnI p st pre post l (h.ins q).n.toNat r := by
 obtain ⟨n, s, P, e, hs, hr⟩ := hI
 rcases pos_cases S P with ⟨c, _⟩ | ⟨⟨w, c⟩ | ⟨w, c⟩, P1⟩
 ·rw [c] at h7; exact absurd h7 (by decide)
 ·rw [c] at h7 ⊢
  dsimp only at h7 ⊢
  rw [Int.toNat_natCast]
  have H := here_of ok hk hc P.1 e
  have hin := H.ins
  unfold InsOk Plc at hin
  simp [h7] at hin
  have hn1 : (p.ins n).n.toNat < p.cl := by omega
  obtain ⟨u, eu, hu⟩ := H.leads ((p.ins n).n.toNat, s) (by unfold leadsK; rw [if_pos h7]; simp) hn1
  dsimp only at eu hu
  exact ⟨fun j hj => fab_up S hl P e (pos_st hn1) eu (fun h8 w => (hu j h8).2 w), ⟨_, u, pos_st hn1, eu, hs.mono hu (fun j hj => hr j (by omega)), hr⟩⟩
 ·rw [c] at h7; omega

theorem fn_cond (ok : p.Ok 200 8) (hn : ∀ i, i < p.cl → B64 (p.ins i).n) (hk : Known p l) (hc : (checkK p l).1 = 0) (S : Fnc p h st pre post) (hl : ∀ q j, lab q j = true ↔ FnSec p st pre post l q j) (q : Nat) (h8 : (h.ins q).op = 8) (r : Nat → Int) (hI : FnI p st pre post l q r) :
  (h.ins q).a.toNat < 10 ∧ (h.ins q).b.toNat < 10 ∧ lab q (h.ins q).a.toNat = false ∧ lab q (h.ins q).b.toNat = false ∧ (∀ j, j < 10 → lab q j = true → lab (h.ins q).n.toNat j = true ∧ lab (q + 1) j = true) ∧ FnI p st pre post l (rightI h q r) r ∧ (FnI p st pre post l (otherI h q r) r ∨ Stop h (otherI h q r)) := by
 obtain ⟨n, s, P, e, hs, hr⟩ := hI
 rcases pos_cases S P with ⟨c, _⟩ | ⟨⟨w, c⟩ | ⟨w, c⟩, P1⟩
 ·rw [c] at h8; exact absurd h8 (by decide)
 ·unfold rightI otherI
  rw [c] at h8 ⊢
  dsimp only at h8 ⊢
  rw [Int.toNat_natCast]
  have H := here_of ok hk hc P.1 e
  have hin := H.ins
  have hg := regs_of hin
  have ha := hg.1 (by omega)
  have hb := hg.2.1 (by omega)
  unfold InsOk Plc at hin
  simp [h8] at hin
  have hn1 : (p.ins n).n.toNat < p.cl := by omega
  have hk1 := H.next (by omega) (by omega)
  have hsec := H.secret
  unfold secretK at hsec
  simp [h8] at hsec
  obtain ⟨u, eu, hu⟩ := H.leads ((p.ins n).n.toNat, yesK (p.ins n) s) (by unfold leadsK; simp [h8]) hn1
  obtain ⟨v, ev, hv⟩ := H.leads (n + 1, noK (p.ins n) s) (by unfold leadsK; simp [h8]) hk1
  dsimp only at eu hu ev hv
  have hr8 : ∀ j, j < 8 → B64 (r j) := fun j hj => hr j (by omega)
  obtain ⟨P2, st2⟩ := P1 hk1
  have stop1 : Stop h (st (p.ins n).n.toNat) := S.stop hn1 (S.both n P.1 h8).1
  refine ⟨by omega, by omega, (fab_not S hl P e _).2 (fun _ => hsec.1), (fab_not S hl P e _).2 (fun _ => hsec.2), fun j hj w => ⟨?_, ?_⟩, ?_, .inr ?_⟩
  ·exact fab_up S hl P e (pos_st hn1) eu (fun h8 q => (hu j h8).2 (by rw [yes_s]; exact q)) w
  ·exact fab_up S hl P e P2 ev (fun h8 q => (hv j h8).2 (by rw [no_s]; exact q)) w
  ·by_cases qh : holdsI (p.ins n).c (r (p.ins n).a.toNat) (r (p.ins n).b.toNat) = true
   ·rw [if_pos qh]; exact ⟨_, u, pos_st hn1, eu, (has_yes H.ins h8 hr8 hs qh).mono hu hr8, hr⟩
   ·rw [if_neg qh]; exact ⟨_, v, P2, ev, (has_no H.ins h8 hr8 hs qh).mono hv hr8, hr⟩
  ·by_cases qh : holdsI (p.ins n).c (r (p.ins n).a.toNat) (r (p.ins n).b.toNat) = true
   ·rw [if_pos qh]; exact st2 h8
   ·rw [if_neg qh]; exact stop1
 ·rw [c] at h8; omega

theorem fn_halt (ok : p.Ok 200 8) (hn : ∀ i, i < p.cl → B64 (p.ins i).n) (hk : Known p l) (hc : (checkK p l).1 = 0) (S : Fnc p h st pre post) (hl : ∀ q j, lab q j = true ↔ FnSec p st pre post l q j) (q : Nat) (h9 : (h.ins q).op = 9) (r : Nat → Int) (hI : FnI p st pre post l q r) : (h.ins q).a.toNat < 10 ∧ lab q (h.ins q).a.toNat = false := by
 obtain ⟨n, s, P, e, hs, hr⟩ := hI
 rcases pos_cases S P with ⟨c, _⟩ | ⟨⟨w, c⟩ | ⟨w, c⟩, P1⟩
 ·rw [c] at h9; exact absurd h9 (by decide)
 ·rw [c] at h9; dsimp only at h9; omega
 ·rw [c] at h9 ⊢
  have H := here_of ok hk hc P.1 e
  have hsec := H.secret
  unfold secretK at hsec
  simp [h9] at hsec
  have ha := (regs_of H.ins).1 (by omega)
  exact ⟨by omega, (fab_not S hl P e _).2 (fun _ => hsec)⟩

theorem fn_fence (ok : p.Ok 200 8) (hn : ∀ i, i < p.cl → B64 (p.ins i).n) (hk : Known p l) (hc : (checkK p l).1 = 0) (S : Fnc p h st pre post) (hl : ∀ q j, lab q j = true ↔ FnSec p st pre post l q j) (q : Nat) (h12 : (h.ins q).op = 12) (r : Nat → Int) (hI : FnI p st pre post l q r) : (∀ j, j < 10 → lab q j = true → lab (q + 1) j = true) ∧ FnI p st pre post l (q + 1) r := by
 obtain ⟨n, s, P, e, hs, hr⟩ := hI
 rcases pos_cases S P with ⟨c, P2⟩ | ⟨⟨w, c⟩ | ⟨w, c⟩, P1⟩
 ·exact ⟨fun j hj => fab_up S hl P e P2 e (fun _ q => q), ⟨n, s, P2, e, hs, hr⟩⟩
 ·rw [c] at h12; dsimp only at h12; omega
 ·rw [c] at h12
  have H := here_of ok hk hc P.1 e
  obtain ⟨u, eu, hu⟩ := H.plain (by omega) (by omega) (by omega)
  have hk1 := H.next (by omega) (by omega)
  have e3 : nextK p (p.ins n) s = s := by unfold nextK; simp [h12]
  rw [e3] at hu
  have P2 := (P1 hk1).1
  exact ⟨fun j hj => fab_up S hl P e P2 eu (fun h8 q => (hu j h8).2 q), ⟨n + 1, u, P2, eu, hs.mono hu (fun j hj => hr j (by omega)), hr⟩⟩

/-- Where a word is taken or put stands what was. -/
theorem fn_put (S : Fnc p h st pre post) {q n : Nat} (P : PosF p st pre post q n) (hp : 0 ≤ putI (h.ins q)) : h.ins q = p.ins n ∧ ((p.ins n).op = 3 ∨ (p.ins n).op = 4 ∨ (p.ins n).op = 5 ∨ (p.ins n).op = 6) ∧ (n + 1 < p.cl → PosF p st pre post (q + 1) (n + 1)) := by
 rcases pos_cases S P with ⟨c, P2⟩ | ⟨⟨w, c⟩ | ⟨w, c⟩, P1⟩
 ·rw [c] at hp; exact absurd hp (by decide)
 ·rw [c] at hp
  unfold putI at hp
  dsimp only at hp
  rw [if_neg (by omega), if_neg (by omega)] at hp
  omega
 ·refine ⟨c, ?_, fun h1 => (P1 h1).1⟩
  rw [c] at hp
  by_cases o : (p.ins n).op = 3 ∨ (p.ins n).op = 4 ∨ (p.ins n).op = 5 ∨ (p.ins n).op = 6
  ·exact o
  ·unfold putI at hp
   rw [if_neg (by omega), if_neg (by omega)] at hp
   omega

theorem fn_at (ok : p.Ok 200 8) (hn : ∀ i, i < p.cl → B64 (p.ins i).n) (hk : Known p l) (hc : (checkK p l).1 = 0) (S : Fnc p h st pre post) (hl : ∀ q j, lab q j = true ↔ FnSec p st pre post l q j) (q : Nat) (hp : 0 ≤ putI (h.ins q)) (r : Nat → Int) (hI : FnI p st pre post l q r) :
  (h.ins q).c.toNat < h.rl ∧ (h.ins q).a.toNat < 10 ∧ (0 ≤ idxI r (h.ins q) ∧ idxI r (h.ins q) < wordsI (h.log (h.ins q).c.toNat)) ∧ (∀ t, (∀ j, j < 10 → lab q j = false → r j = t j) → idxI r (h.ins q) = idxI t (h.ins q)) := by
 obtain ⟨n, s, P, e, hs, hr⟩ := hI
 obtain ⟨c, op, P1⟩ := fn_put S P hp
 have H := here_of ok hk hc P.1 e
 have hg := regs_of H.ins
 have ha := hg.1 (by omega)
 obtain ⟨_, w2, w3⟩ := fn_word ok hn hk hc P.1 e hs hr op 0 B64_zero
 rw [c, ← (S.reg _ w2).1, ← S.rl]
 refine ⟨w2, by omega, w3, fun t ht => ?_⟩
 have A := fagree_in S hl P e ht
 unfold idxI
 by_cases q5 : (p.ins n).op = 5 ∨ (p.ins n).op = 6
 ·rw [if_pos q5, if_pos q5]
 ·rw [if_neg q5, if_neg q5]
  have hsec := H.secret
  unfold secretK at hsec
  have hb : (s (p.ins n).b.toNat).s = false := by
   by_cases q3 : (p.ins n).op = 3
   ·rw [if_pos q3] at hsec; exact hsec
   ·rw [if_neg q3, if_pos (by omega)] at hsec; exact (Bool.or_eq_false_iff.1 hsec).1
  rw [A.1 _ (hg.2.1 (by omega)) hb]

theorem fn_load (ok : p.Ok 200 8) (hn : ∀ i, i < p.cl → B64 (p.ins i).n) (hk : Known p l) (hc : (checkK p l).1 = 0) (S : Fnc p h st pre post) (hl : ∀ q j, lab q j = true ↔ FnSec p st pre post l q j) (q : Nat) (hp : putI (h.ins q) = 0) (r : Nat → Int) (hI : FnI p st pre post l q r) :
  (∀ j, j < 10 → j ≠ (h.ins q).a.toNat → lab q j = true → lab (q + 1) j = true) ∧ (h.sec (h.ins q).c.toNat = true → lab (q + 1) (h.ins q).a.toNat = true) ∧ ∀ v, B64 v → FnI p st pre post l (q + 1) (setR r (h.ins q).a v) := by
 obtain ⟨n, s, P, e, hs, hr⟩ := hI
 obtain ⟨c, op, P1⟩ := fn_put S P (by omega)
 rw [c] at hp ⊢
 have H := here_of ok hk hc P.1 e
 have o35 : (p.ins n).op = 3 ∨ (p.ins n).op = 5 := by
  unfold putI at hp
  by_cases o : (p.ins n).op = 3 ∨ (p.ins n).op = 5
  ·exact o
  ·rw [if_neg o, if_pos (by omega)] at hp; omega
 obtain ⟨u, eu, hu⟩ := H.plain (by omega) (by omega) (by omega)
 have hk1 := H.next (by omega) (by omega)
 have P2 := P1 hk1
 have ha := (regs_of H.ins).1 (by omega)
 have e3 : nextK p (p.ins n) s = setK s (p.ins n).a ⟨17, p.sec (p.ins n).c.toNat⟩ := by unfold nextK; rw [if_neg (by omega), if_neg (by omega), if_neg (by omega), if_pos o35]
 rw [e3] at hu
 refine ⟨fun j hj ne => fab_up S hl P e P2 eu (fun h8 q => (hu j h8).2 (by unfold setK; rw [if_neg ne]; exact q)), fun hsec => ?_, fun v hv => ?_⟩
 ·refine (fab_at S hl P2 eu _).2 ⟨ha, (hu _ ha).2 ?_⟩
  unfold setK
  rw [if_pos rfl, (S.reg _ (fn_word ok hn hk hc P.1 e hs hr op 0 B64_zero).2.1).2]
  exact hsec
 ·have w := fn_word ok hn hk hc P.1 e hs hr op v hv
  have := fn_step ok hn hk hc P.1 e hs hr hv (step_load (s := ⟨n, r, memC p v, []⟩) rfl o35 w.1)
  obtain ⟨b1, u2, b2, b3, b4⟩ := this
  exact ⟨n + 1, u2, P2, b2, b3, b4⟩

theorem fn_store (ok : p.Ok 200 8) (hn : ∀ i, i < p.cl → B64 (p.ins i).n) (hk : Known p l) (hc : (checkK p l).1 = 0) (S : Fnc p h st pre post) (hl : ∀ q j, lab q j = true ↔ FnSec p st pre post l q j) (q : Nat) (hp : putI (h.ins q) = 1) (r : Nat → Int) (hI : FnI p st pre post l q r) :
  ((∀ j, j < 10 → lab q j = true → lab (q + 1) j = true) ∧ (lab q (h.ins q).a.toNat = true → h.sec (h.ins q).c.toNat = true) ∧ FnI p st pre post l (q + 1) r) ∧ B64 (r (h.ins q).a.toNat) := by
 obtain ⟨n, s, P, e, hs, hr⟩ := hI
 obtain ⟨c, op, P1⟩ := fn_put S P (by omega)
 rw [c] at hp ⊢
 have H := here_of ok hk hc P.1 e
 have o46 : (p.ins n).op = 4 ∨ (p.ins n).op = 6 := by
  unfold putI at hp
  by_cases o : (p.ins n).op = 3 ∨ (p.ins n).op = 5
  ·rw [if_pos o] at hp; omega
  ·omega
 obtain ⟨u, eu, hu⟩ := H.plain (by omega) (by omega) (by omega)
 have hk1 := H.next (by omega) (by omega)
 have P2 := P1 hk1
 have ha := (regs_of H.ins).1 (by omega)
 have hcr := (fn_word ok hn hk hc P.1 e hs hr op 0 B64_zero).2.1
 have e3 : nextK p (p.ins n) s = s := by unfold nextK; rw [if_neg (by omega), if_neg (by omega), if_neg (by omega), if_neg (by omega), if_neg (by omega), if_pos (by omega)]
 rw [e3] at hu
 refine ⟨⟨fun j hj => fab_up S hl P e P2 eu (fun h8 q => (hu j h8).2 q), fun hsl => ?_, ⟨n + 1, u, P2, eu, hs.mono hu (fun j hj => hr j (by omega)), hr⟩⟩, hr _ (by omega)⟩
 have hs2 := ((fab_at S hl P e _).1 hsl).2
 have hsec := H.secret
 unfold secretK at hsec
 rw [← (S.reg _ hcr).2]
 rcases o46 with m | m <;> simp [m, hs2] at hsec
 ·exact hsec.2
 ·exact hsec

theorem fn_op (ok : p.Ok 200 8) (hn : ∀ i, i < p.cl → B64 (p.ins i).n) (hk : Known p l) (hc : (checkK p l).1 = 0) (S : Fnc p h st pre post) (hl : ∀ q j, lab q j = true ↔ FnSec p st pre post l q j) (q : Nat) (h7 : ¬ (h.ins q).op = 7) (h8 : ¬ (h.ins q).op = 8) (h9 : ¬ (h.ins q).op = 9) (h12 : ¬ (h.ins q).op = 12) (hp : ¬ 0 ≤ putI (h.ins q)) (r : Nat → Int) (hI : FnI p st pre post l q r) :
  (∀ t, (∀ j, j < 10 → lab q j = false → r j = t j) → (regsI r (h.ins q)).2 = (regsI t (h.ins q)).2 ∧ ∀ j, j < 10 → lab (q + 1) j = false → (regsI r (h.ins q)).1 j = (regsI t (h.ins q)).1 j) ∧ FnI p st pre post l (q + 1) (regsI r (h.ins q)).1 := by
 obtain ⟨n, s, P, e, hs, hr⟩ := hI
 rcases pos_cases S P with ⟨c, _⟩ | ⟨⟨w, c⟩ | ⟨w, c⟩, P1⟩
 ·rw [c] at h12; exact absurd rfl h12
 ·rw [c] at h7 h8; dsimp only at h7 h8; omega
 ·rw [c] at h7 h8 h9 h12 hp ⊢
  have n3 : ¬ (p.ins n).op = 3 := fun q => hp (by unfold putI; simp [q])
  have n4 : ¬ (p.ins n).op = 4 := fun q => hp (by unfold putI; simp [q])
  have n5 : ¬ (p.ins n).op = 5 := fun q => hp (by unfold putI; simp [q])
  have n6 : ¬ (p.ins n).op = 6 := fun q => hp (by unfold putI; simp [q])
  have H := here_of ok hk hc P.1 e
  obtain ⟨u, eu, hu⟩ := H.plain h7 h8 h9
  have hk1 := H.next h7 h9
  have P2 := (P1 hk1).1
  have ha := (regs_of H.ins).1 (by omega)
  refine ⟨fun t ht => ?_, ?_⟩
  ·have A := fagree_in S hl P e ht
   have R := eq_regs H.ins n3 n4 n5 n6 h7 h8 h9 H.secret A.1
   refine ⟨R.2, fagree_out S hl P2 eu (R.1.mono hu) (fun j j8 j10 => ?_)⟩
   rw [regs_high ha r j j8, regs_high ha t j j8]
   exact A.2 j j8 j10
  ·obtain ⟨b1, u2, b2, b3, b4⟩ := fn_step ok hn hk hc P.1 e hs hr B64_zero (step_regs (s := ⟨n, r, memC p 0, []⟩) rfl n3 n4 n5 n6 h7 h8 h9)
   exact ⟨n + 1, u2, P2, b2, b3, b4⟩

/-- Such a program is tight. -/
theorem fn_tight (ok : p.Ok 200 8) (hn : ∀ i, i < p.cl → B64 (p.ins i).n) (hk : Known p l) (hc : (checkK p l).1 = 0) (S : Fnc p h st pre post) : Still h := by
 refine ⟨B64, fun q j => @decide (FnSec p st pre post l q j) (Classical.propDecidable _), FnI p st pre post l, fun _ q => q, ?_, ?_⟩
 ·have hl : ∀ q j, (fun q j => @decide (FnSec p st pre post l q j) (Classical.propDecidable _)) q j = true ↔ FnSec p st pre post l q j := fun q j => by simp
  refine ⟨?_, B64_zero, fun k _ c r I => fn_jump ok hn hk hc S hl k c r I, fun k _ c r I => fn_cond ok hn hk hc S hl k c r I, fun k _ c r I => fn_halt ok hn hk hc S hl k c r I, fun k _ c r I => fn_fence ok hn hk hc S hl k c r I, fun k _ c r I => fn_at ok hn hk hc S hl k c r I, fun k _ c r I => fn_load ok hn hk hc S hl k c r I, fun k _ c r I => (fn_store ok hn hk hc S hl k c r I).1, fun k _ c r I => (fn_store ok hn hk hc S hl k c r I).2, fun k _ h7 h8 h9 h12 hp r I => fn_op ok hn hk hc S hl k h7 h8 h9 h12 hp r I⟩
  exact ⟨by rw [← S.rl]; exact ok.1.1, fun i hi => by rw [← (S.reg i (by rw [S.rl]; exact hi)).1]; exact ok.1.2 i (by rw [S.rl]; exact hi)⟩
 ·obtain ⟨s, e, _⟩ := hk.closed.first
  refine ⟨0, s, ?_, e, fun j hj => hasI_zero _, fun _ _ => B64_zero⟩
  have := pos_st (st := st) (pre := pre) (post := post) (p := p) ok.2.1
  rw [S.s0] at this
  exact this

end
end
section
open Go.RowKit
set_option linter.unusedSimpArgs false
set_option linter.unusedVariables false
section
variable (M : Nat → List Ins)
/-- What stands for the first instructions. -/
def codeG : Nat → List Ins
 | 0 => []
 | n + 1 => codeG n ++ M n
def startG (n : Nat) : Nat := (codeG M n).length
/-- What leads elsewhere leads to where that begins now. -/
def leadG (i : Ins) : Ins := if i.op = 7 ∨ i.op = 8 then ⟨i.op, i.a, i.b, i.c, (startG M i.n.toNat : Int)⟩ else i
def hardG (cl q : Nat) : Ins := leadG M ((codeG M cl).getD q ⟨0, 0, 0, 0, 0⟩)
theorem startG_next (n : Nat) : startG M (n + 1) = startG M n + (M n).length := by
 unfold startG; rw [codeG, List.length_append]
/-- Where an instruction's part is found. -/
theorem codeG_at : ∀ (n k o : Nat), k < n → o < (M k).length → (codeG M n)[startG M k + o]? = (M k)[o]?
 | 0, k, o, h, _ => absurd h (Nat.not_lt_zero _)
 | n + 1, k, o, h, ho => by
  rw [codeG]
  by_cases e : k = n
  ·subst e
   rw [List.getElem?_append_right (by unfold startG; omega)]
   congr 1
   unfold startG; omega
  ·have h2 := codeG_at n k o (by omega) ho
   have hlt : startG M k + o < (codeG M n).length := by
    have e1 : (M k)[o]? ≠ none := by
     rw [Ne, List.getElem?_eq_none_iff]; omega
    rw [← h2] at e1
    rw [Ne, List.getElem?_eq_none_iff] at e1
    omega
   rw [List.getElem?_append_left hlt]
   exact h2
theorem hardG_at {cl k o : Nat} {i : Ins} (hk : k < cl) (e : (M k)[o]? = some i) : hardG M cl (startG M k + o) = leadG M i := by
 unfold hardG
 rw [List.getD_eq_getElem?_getD, codeG_at M cl k o hk (List.getElem?_eq_some_iff.1 e).1, e]
 rfl
theorem leadG_else {i : Ins} (h : ¬ (i.op = 7 ∨ i.op = 8)) : leadG M i = i := by unfold leadG; rw [if_neg h]
end
def flatI : List Ins → List Value
 | [] => []
 | i :: l => .int .i64 i.op :: .int .i64 i.a :: .int .i64 i.b :: .int .i64 i.c :: .int .i64 i.n :: flatI l
theorem flatI_append : ∀ l l' : List Ins, flatI (l ++ l') = flatI l ++ flatI l'
 | [], _ => rfl
 | s :: l, l' => by simp [flatI, flatI_append l l']
theorem flatI_at : ∀ (l : List Ins) (i : Nat) (s : Ins), l[i]? = some s → (flatI l)[i * 5]? = some (.int .i64 s.op) ∧ (flatI l)[i * 5 + 1]? = some (.int .i64 s.a) ∧ (flatI l)[i * 5 + 2]? = some (.int .i64 s.b) ∧ (flatI l)[i * 5 + 3]? = some (.int .i64 s.c) ∧ (flatI l)[i * 5 + 4]? = some (.int .i64 s.n)
 | [], i, s, h => by simp at h
 | x :: l, 0, s, h => by simp at h; subst h; simp [flatI]
 | x :: l, i + 1, s, h => by
  have := flatI_at l i s (by simpa using h)
  rw [show (i + 1) * 5 = i * 5 + 1 + 1 + 1 + 1 + 1 by omega, flatI]
  simpa using this
theorem flatI_one : ∀ (l : List Ins), ∀ u ∈ flatI l, u.oneCell' = true
 | [], u, h => by simp [flatI] at h
 | i :: l, u, h => by
  simp only [flatI, List.mem_cons] at h
  rcases h with rfl | rfl | rfl | rfl | rfl | h
  ·rfl
  ·rfl
  ·rfl
  ·rfl
  ·rfl
  ·exact flatI_one l u h
/-- What stands for the n-th instruction. -/
def fenK (p : Prg) (pre post : Nat → Bool) (n : Nat) : List Ins := (if pre n then [fenceI] else []) ++ (p.ins n :: (if post n then [fenceI] else []))
def fenP (p : Prg) (pre post : Nat → Bool) : Prg := ⟨p.rl, p.log, p.sec, startG (fenK p pre post) p.cl, hardG (fenK p pre post) p.cl⟩

theorem fenK_length (p : Prg) (pre post : Nat → Bool) (n : Nat) : (fenK p pre post n).length = sizeF pre post n := by
 unfold fenK sizeF
 cases pre n <;> cases post n <;> rfl
theorem fenP_fnc (p : Prg) (pre post : Nat → Bool) (both : ∀ k, k < p.cl → (p.ins k).op = 8 → (pre (p.ins k).n.toNat = true ∨ (p.ins (p.ins k).n.toNat).op = 12) ∧ (post k = true ∨ pre (k + 1) = true ∨ (p.ins (k + 1)).op = 12)) : Fnc p (fenP p pre post) (startG (fenK p pre post)) pre post := by
 have at_ : ∀ k o i, k < p.cl → (fenK p pre post k)[o]? = some i → (fenP p pre post).ins (startG (fenK p pre post) k + o) = leadG (fenK p pre post) i := fun k o i hk e => hardG_at _ hk e
 have self : ∀ k, (fenK p pre post k)[(pre k).toNat]? = some (p.ins k) := fun k => by
  unfold fenK
  cases pre k <;> simp
 refine ⟨rfl, fun i hi => ⟨rfl, rfl⟩, rfl, fun k hk => by rw [startG_next, fenK_length], rfl, fun k hk h => ?_, fun k hk h => ?_, fun k hk h => ?_, fun k hk h => ?_, both⟩
 ·have := at_ k 0 fenceI hk (by unfold fenK; rw [h]; rfl)
  rw [Nat.add_zero, leadG_else _ (by unfold fenceI; simp)] at this
  exact this
 ·have := at_ k ((pre k).toNat + 1) fenceI hk (by unfold fenK; rw [h]; cases pre k <;> simp)
  rw [leadG_else _ (by unfold fenceI; simp), ← Nat.add_assoc] at this
  exact this
 ·rw [at_ k _ _ hk (self k)]
  unfold leadG
  rw [if_pos h]
 ·rw [at_ k _ _ hk (self k), leadG_else _ h]
theorem startF_le (p : Prg) (pre post : Nat → Bool) : ∀ n, n ≤ startG (fenK p pre post) n ∧ startG (fenK p pre post) n ≤ 3 * n
 | 0 => ⟨Nat.le_refl _, Nat.le_refl _⟩
 | n + 1 => by
  have := startF_le p pre post n
  have := sizeF_pos pre post n
  rw [startG_next, fenK_length]; omega
/-- No masks but those that the program has. -/
theorem fenP_mask (p : Prg) (pre post : Nat → Bool) : ∀ n, ((codeG (fenK p pre post) n).filter fun i => i.op == 11).length = ((List.range n).filter fun k => (p.ins k).op == 11).length
 | 0 => rfl
 | n + 1 => by
  rw [codeG, List.filter_append, List.length_append, fenP_mask p pre post n, List.range_succ, List.filter_append, List.length_append]
  congr 1
  have hf : (fenceI.op == 11) = false := by decide
  unfold fenK
  cases pre n <;> cases post n <;> simp [hf, List.filter_cons] <;> split <;> simp_all
end
end Go.Proofs.Ytmpafeoileonjaa
