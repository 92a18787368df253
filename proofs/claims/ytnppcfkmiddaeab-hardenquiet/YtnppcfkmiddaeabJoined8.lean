/-
  The texts CkCheck, RefSame, R8, HdLaw, CkQuiet, CkPublic, QuietAux, SemSpec, SpQuiet, RPlace, SpecAlike, SpecMore, one behind the other, with what is used of them.
-/
import Derived.Test.YtnppcfkmiddaeabJoined7
import Derived.Test.YtnppcfkmiddaeabRows
import Derived.WalkKit
import Derived.Deep.LoopGhost
import Derived.Test.YtnppcfkmiddaeabJoined0
import Derived.Test.YtnppcfkmiddaeabJoined5
import Derived.Test.YtnppcfkmiddaeabProg
import Derived.Deep.AppendLies
import Derived.Laws.AppendOwnNone
namespace Go.Proofs.Ytnppcfkmiddaeab
section
open Go.RowKit
set_option linter.unusedSimpArgs false
set_option linter.unusedVariables false
set_option maxRecDepth 8000
theorem Jik {p : Prg} {at_ : Nat} (hi : InsOk p.rl p.log p.cl 8 (p.ins at_)) (s : KS) : (∃ (i : Nat) (x : Nat × KS), (J0d p at_ s)[i]? = some x ∧ p.cl ≤ x.1) ↔ outK p at_ = true := by
 unfold outK
 have hI := hi
 unfold InsOk Plc at hI
 constructor
 ·rintro ⟨i, x, hx, hc⟩
  have hm := List.mem_of_getElem? hx
  unfold J0d at hm
  by_cases h7 : (p.ins at_).op = 7
  ·rw [if_pos h7] at hm
   simp [h7] at hI
   simp at hm; subst hm; dsimp only at hc; omega
  rw [if_neg h7] at hm
  by_cases h9 : (p.ins at_).op = 9
  ·rw [if_pos h9] at hm; simp at hm
  rw [if_neg h9] at hm
  by_cases h8 : (p.ins at_).op = 8
  ·rw [if_pos h8] at hm
   simp [h8] at hI
   simp at hm
   rcases hm with rfl | rfl
   ·dsimp only at hc; omega
   ·simp [h7, h9]; exact hc
  ·rw [if_neg h8] at hm
   simp at hm; subst hm
   simp [h7, h9]; exact hc
 ·intro h
  simp at h
  obtain ⟨h7, h9, hc⟩ := h
  unfold J0d
  rw [if_neg h7, if_neg h9]
  by_cases h8 : (p.ins at_).op = 8
  ·rw [if_pos h8]; exact ⟨1, _, rfl, hc⟩
  ·rw [if_neg h8]; exact ⟨0, _, rfl, hc⟩

abbrev flt (c a : Int) : Value := .agg #[.int .i64 c, .int .i64 a]

theorem J9c (rv cv : Value) (hrv : ∃ a n c, rv = .slice a n c) (hcv : ∃ a n c, cv = .slice a n c) (w : World) (cm : ∀ w1 : World, More w w1 → Calls Try.prog 16 #[.agg #[rv, cv]] w1 fun e w' => e = .returned (.bool false) ∧ More w1 w') :
  Calls Try.prog 14 #[.agg #[rv, cv]] w fun e w' => e = .returned (flt 2 0) ∧ More w w' := by
 obtain ⟨a, n, c, rfl⟩ := hrv
 obtain ⟨a2, n2, c2, rfl⟩ := hcv
 unfold flt
 go_enter Try.func14, Try.ntmps14
 go_wp2_with (fail)
 refine (cm _ (((More.refl _).alloc _ _).alloc _ _)).mono ?_
 rintro e w1 ⟨rfl, m1⟩
 have Hres : Hid (Blk w1 (w.heap.size + 1) #[.int .i64 0, .int .i64 0] 33) := (by simpa using Blk.last (w.alloc (.cells #[.slice a n c, .slice a2 n2 c2] 30)) #[.int .i64 0, .int .i64 0] 33 : Blk ((w.alloc (.cells #[.slice a n c, .slice a2 n2 c2] 30)).alloc (.cells #[.int .i64 0, .int .i64 0] 33)) (w.heap.size + 1) #[.int .i64 0, .int .i64 0] 33).more m1
 have Hm1 : Hid (More w w1) := (((More.refl _).alloc _ _).alloc _ _).trans m1
 clear m1
 have t0 := Hres.out.cell (j := 0) (v := .int .i64 0) rfl
 have t1 := Hres.out.cell (j := 1) (v := .int .i64 0) rfl
 have u0 := Hres.out.frozen 0
 have u1 := Hres.out.frozen 1
 go_wp2
 exact bodyPost_ret (by simp [results, Try.results14, go_sem, *]) rfl ⟨rfl, (Hm1.out.setCell (by dsimp only; omega) _).setCell (by dsimp only; omega) _⟩

set_option maxHeartbeats 8000000 in
theorem Jd3 (p : Prg) (lo : Loc) (w : World) (hp : PIn w p lo) (hok : p.Ok 200 8) (hn : ∀ i, i < p.cl → -9223372036854775808 ≤ (p.ins i).n ∧ (p.ins i).n ≤ 9223372036854775807)
  (cm : ∀ w1 : World, More w w1 → Calls Try.prog 16 #[.agg #[.slice lo.ra p.rl lo.rc, .slice lo.ca p.cl lo.cc]] w1 fun e w' => e = .returned (.bool true) ∧ More w1 w') :
  Calls Try.prog 14 #[.agg #[.slice lo.ra p.rl lo.rc, .slice lo.ca p.cl lo.cc]] w fun e w' => ∃ l, Known p l ∧ e = .returned (flt (J0c p l).1 (J0c p l).2) ∧ More w w' := by
 suffices hP : ∀ P : Ending → World → Prop, (∀ l, Known p l → ∀ w', More w w' → P (.returned (flt (J0c p l).1 (J0c p l).2)) w') → Calls Try.prog 14 #[.agg #[.slice lo.ra p.rl lo.rc, .slice lo.ca p.cl lo.cc]] w P from hP _ (fun l h1 w' h2 => ⟨l, h1, rfl, h2⟩)
 intro P hP0
 have HP : Hid (∀ l, Known p l → ∀ w', More w w' → P (.returned (flt (J0c p l).1 (J0c p l).2)) w') := hP0
 have H : Hid (PIn w p lo ∧ p.Ok 200 8 ∧ ∀ i, i < p.cl → -9223372036854775808 ≤ (p.ins i).n ∧ (p.ins i).n ≤ 9223372036854775807) := ⟨hp, hok, hn⟩
 have h1 : 1 ≤ p.cl := hok.2.1
 have h2 : p.cl ≤ 200 := hok.2.2.1
 have hi1 : (1 : Int) ≤ p.cl := by omega
 have hi2 : (p.cl : Int) ≤ 200 := by omega
 clear hP0 hp hok hn
 have HS0 : Hid (∀ w1 : World, More w w1 → Calls Try.prog 33 #[.agg #[.slice lo.ra p.rl lo.rc, .slice lo.ca p.cl lo.cc]] w1 fun e w' => ∃ lb l, e = .returned (.slice (some ⟨lb, 0, none⟩) p.cl p.cl) ∧ VAt w' lb p.cl l ∧ Known p l ∧ More w1 w') := fun w1 m => J8e p lo w1 (H.out.1.more m) H.out.2.1 H.out.2.2
 obtain ⟨cl, hcl⟩ : ∃ cl, p.cl = cl := ⟨_, rfl⟩
 have Hcl : Hid (p.cl = cl) := hcl
 rw [hcl] at h1 h2 hi1 hi2 cm ⊢
 have HSt : Hid (∀ w1 : World, More w w1 → Calls Try.prog 33 #[.agg #[.slice lo.ra p.rl lo.rc, .slice lo.ca cl lo.cc]] w1 fun e w' => ∃ lb l, e = .returned (.slice (some ⟨lb, 0, none⟩) cl cl) ∧ VAt w' lb p.cl l ∧ Known p l ∧ More w1 w') := by
  have := HS0.out
  rw [hcl] at this
  rw [hcl]; exact this
 have Hcm : Hid (∀ w1 : World, More w w1 → Calls Try.prog 16 #[.agg #[.slice lo.ra p.rl lo.rc, .slice lo.ca cl lo.cc]] w1 fun e w' => e = .returned (.bool true) ∧ More w1 w') := cm
 clear hcl HS0 cm
 obtain ⟨ra, rb, ro, rc, ca, cb, co, cc⟩ := lo
 dsimp only at HSt Hcm ⊢
 obtain rfl : ca = some ⟨cb, co, none⟩ := H.out.1.hc (by have := Hcl.out; omega)
 obtain ⟨W0, HW0⟩ : ∃ W0 : World, Hid (W0 = (w.alloc (.cells #[.slice ra p.rl rc, .slice (some ⟨cb, co, none⟩) cl cc] 30)).alloc (.cells #[.int .i64 0, .int .i64 0] 33)) := ⟨_, rfl⟩
 have HM0 : Hid (More w W0) := HW0.out ▸ ((More.refl _).alloc _ _).alloc _ _
 have HBX : Hid (Blk W0 w.heap.size #[.slice ra p.rl rc, .slice (some ⟨cb, co, none⟩) cl cc] 30) := HW0.out ▸ (Blk.last _ _ _).more ((More.refl _).alloc _ _)
 have HRES : Hid (Blk W0 (w.heap.size + 1) #[.int .i64 0, .int .i64 0] 33) := by
  show Blk _ _ _ _
  rw [HW0.out]
  simpa using Blk.last (w.alloc (.cells #[.slice ra p.rl rc, .slice (some ⟨cb, co, none⟩) cl cc] 30)) #[.int .i64 0, .int .i64 0] 33
 go_enter Try.func14, Try.ntmps14
 go_wp2_with (fail)
 rw [← HW0.out]
 refine (Hcm.out _ HM0.out).mono ?_
 rintro e w1 ⟨rfl, m1⟩
 have HM1 : Hid (More W0 w1) := m1
 clear m1
 have p0 : w1.cell? ⟨w.heap.size, 0, none⟩ = some (.slice ra p.rl rc) := (HBX.out.more HM1.out).cell rfl
 have p1 : w1.cell? ⟨w.heap.size, 1, none⟩ = some (.slice (some ⟨cb, co, none⟩) cl cc) := (HBX.out.more HM1.out).cell rfl
 go_wp2_with (fail)
 refine (HSt.out _ (HM0.out.trans HM1.out)).mono ?_
 rintro e w2 ⟨lb, L, rfl, hv, hkn, m2⟩
 have HV2 : Hid (VAt w2 lb p.cl L ∧ Known p L) := ⟨hv, hkn⟩
 have HM2 : Hid (More W0 w2) := HM1.out.trans m2
 clear m2 hv hkn p0 p1
 go_wp2_with (fail)
 go_loopg [4] cl (fun g iv wr => ∃ k : Nat, k + g = cl ∧ iv = .int .i64 k ∧ Hid (More w2 wr ∧ J0c p L = scanK p L g k))
 case atStart => exact ⟨0, by omega, rfl, More.refl _, by unfold J0c; rw [Hcl.out]⟩
 case round =>
  obtain ⟨k, hkg, rfl, HR⟩ := hrel
  obtain ⟨wm, rfl⟩ : ∃ wm, wm = wr := ⟨wr, rfl⟩
  have HMm : Hid (More W0 wm) := HM2.out.trans HR.out.1
  have HVm : Hid (VAt wm lb p.cl L) := HV2.out.1.more HR.out.1 (by have := Hcl.out; omega)
  have Hsc : Hid (J0c p L = scanK p L gk k) := HR.out.2
  have HMw : Hid (More w2 wm) := HR.out.1
  clear HR
  cases gk with
  | zero =>
   have He : Hid (J0c p L = (0, 0)) := Hsc.out
   clear Hsc
   have t0 := (HRES.out.more HMm.out).cell (j := 0) (v := .int .i64 0) rfl
   have t1 := (HRES.out.more HMm.out).cell (j := 1) (v := .int .i64 0) rfl
   have u0 := (HRES.out.more HMm.out).frozen 0
   have u1 := (HRES.out.more HMm.out).frozen 1
   go_wp2
   refine bodyPost_ret (v := flt 0 0) (by simp [flt, results, Try.results14, go_sem, *]) rfl ?_
   have hE := HP.out L HV2.out.2 _ (((HM0.out.trans HMm.out).setCell (a := ⟨w.heap.size + 1, 0, none⟩) (by dsimp only; omega) (.int .i64 0)).setCell (a := ⟨w.heap.size + 1, 1, none⟩) (by dsimp only; omega) (.int .i64 0))
   rw [He.out] at hE
   exact hE
  | succ g =>
   have hk : k < cl := by omega
   have hki : (k : Int) < cl := by omega
   have hca := HVm.out.at_ k (by rw [Hcl.out]; exact hk)
   cases eL : L k with
   | none =>
    rw [eL] at hca
    have c0 := hca.1
    have Hn2 : Hid (J0c p L = scanK p L g (k + 1)) := by show _ = _; rw [Hsc.out]; simp only [scanK, eL]
    clear hca eL Hsc
    go_wp2
    go_roundg g
    case measure => omega
    case rel => exact ⟨k + 1, by omega, by first | rfl | simp, HMw.out, Hn2.out⟩
   | some s =>
    rw [eL] at hca
    obtain ⟨gs, cs, c0, c1, hks, hgne⟩ := hca
    have Hks : Hid (KRow wm gs s) := hks
    have Hpk : Hid (k < p.cl) := by show _ < _; rw [Hcl.out]; exact hk
    have Hi : Hid (InsOk p.rl p.log p.cl 8 (p.ins k)) := H.out.2.1.2.2.2 k Hpk.out
    have Hn2 : Hid (J0c p L = if J0s p k s = 0 then scanK p L g (k + 1) else (J0s p k s, (k : Int))) := by show _ = _; rw [Hsc.out]; simp only [scanK, eL]
    have Hout : Hid ((∃ (i : Nat) (x : Nat × KS), (J0d p k s)[i]? = some x ∧ p.cl ≤ x.1) ↔ outK p k = true) := Jik Hi.out s
    clear eL hks hgne Hsc
    have q := (H.out.1.more (HM0.out.trans HMm.out)).code k Hpk.out
    obtain ⟨q0, q1, q2, q3, q4⟩ := q
    obtain ⟨i, hi⟩ : ∃ i, p.ins k = i := ⟨_, rfl⟩
    rw [hi] at q0 q1 q2 q3 q4
    have HI : Hid (p.ins k = i) := hi
    clear hi
    obtain ⟨op, a, b, ic, n⟩ := i
    dsimp only at q0 q1 q2 q3 q4
    have p0 : wm.cell? ⟨w.heap.size, 0, none⟩ = some (.slice ra p.rl rc) := (HBX.out.more HMm.out).cell rfl
    have p1 : wm.cell? ⟨w.heap.size, 1, none⟩ = some (.slice (some ⟨cb, co, none⟩) cl cc) := (HBX.out.more HMm.out).cell rfl
    obtain ⟨W8, HW8⟩ : ∃ W8 : World, Hid (W8 = wm.alloc (.cells #[.int .i64 op, .int .i64 a, .int .i64 b, .int .i64 ic, .int .i64 n] 67)) := ⟨_, rfl⟩
    have HM8 : Hid (More wm W8) := HW8.out ▸ (More.refl _).alloc _ _
    have HB8 : Hid (Blk W8 wm.heap.size #[.int .i64 op, .int .i64 a, .int .i64 b, .int .i64 ic, .int .i64 n] 67) := HW8.out ▸ Blk.last _ _ _
    obtain ⟨S, HS⟩ : ∃ S : World → Prop, Hid (∀ w', S w' ↔ More W8 w') := ⟨_, fun _ => Iff.rfl⟩
    have HSd : S W8.drew := (HS.out _).2 (More.refl _).drew
    have hne : Nonempty { w' // S w' } := ⟨⟨_, HSd⟩⟩
    have k0 : ∀ i : { w' // S w' }, i.val.cell? ⟨lb, k * 2, none⟩ = some (.bool true) := fun i => (HM8.out.trans ((HS.out _).1 i.property)).cell c0
    have k1 : ∀ i : { w' // S w' }, i.val.cell? ⟨lb, k * 2 + 1, none⟩ = some (.slice (some ⟨gs, 0, none⟩) 8 cs) := fun i => (HM8.out.trans ((HS.out _).1 i.property)).cell c1
    have k2 : ∀ i : { w' // S w' }, i.val.cell? ⟨w.heap.size, 0, none⟩ = some (.slice ra p.rl rc) := fun i => (HM8.out.trans ((HS.out _).1 i.property)).cell p0
    have k3 : ∀ i : { w' // S w' }, i.val.cell? ⟨w.heap.size, 1, none⟩ = some (.slice (some ⟨cb, co, none⟩) cl cc) := fun i => (HM8.out.trans ((HS.out _).1 i.property)).cell p1
    have Hld : Hid (∀ w1 : World, More wm w1 → Calls Try.prog 34 #[.agg #[.slice ra p.rl rc, .slice (some ⟨cb, co, none⟩) cl cc], .int .i64 k, st true gs cs] w1 fun e w' => ∃ v, e = .returned v ∧ LdAt w' w1.heap.size v (J0d p k s) ∧ More w1 w') := fun w1 m => by
     have := J5s p ⟨ra, rb, ro, rc, some ⟨cb, co, none⟩, cb, co, cc⟩ k gs cs s w1 (H.out.1.more ((HM0.out.trans HMm.out).trans m)) Hpk.out H.out.2.1.2.2.1 Hi.out (H.out.2.2 k Hpk.out).1 (H.out.2.2 k Hpk.out).2 (Hks.out.more m)
     dsimp only at this
     rw [Hcl.out] at this
     exact this
    have zb := J05 p0
    have zc := J05 q0
    have zl := J05 c0
    dsimp only at zb zc zl
    go_wp2_with (fail)
    rw [← HW8.out]
    refine J01 (S := S) [(0, true), (1, true), (2, true), (3, true), (4, true), (5, true), (6, false), (7, true)] (by kernel_rfl) (by kernel_rfl) (by kernel_rfl) HSd ?_
    iterate 6 (refine J00 rfl (by kernel_rfl) (fun K hK => ?_); go_simp; refine hK _ _ ?_; clear hK K)
    refine J02 rfl (by kernel_rfl) (fun K hK => ?_); go_simp
    refine (Hld.out _ (HM8.out.drew)).mono ?_
    rintro e w3 ⟨lv, rfl, hlv, m3⟩
    have HM3 : Hid (More W8 w3) := (More.refl _).drew.trans m3
    have HS3 : S w3 := (HS.out _).2 HM3.out
    obtain ⟨ls, hls⟩ : ∃ ls, J0d p k s = ls := ⟨_, rfl⟩
    rw [hls] at hlv
    have Hls : Hid ((∃ (i : Nat) (x : Nat × KS), ls[i]? = some x ∧ p.cl ≤ x.1) ↔ outK p k = true) := by have := Hout.out; rw [hls] at this; exact this
    clear hls Hout
    obtain ⟨la, lbk, lcap, rfl, hla, _, hl2, hcells⟩ := hlv
    obtain ⟨nl, hnl⟩ : ∃ nl, ls.length = nl := ⟨_, rfl⟩
    rw [hnl] at hla hl2 ⊢
    have Hce : Hid (∀ j x, ls[j]? = some x → w3.cell? ⟨lbk, j * 3, none⟩ = some (.int .i64 (x.1 : Int))) := fun j x hx => by obtain ⟨_, _, q, _⟩ := hcells j x hx; exact q
    have Hnl : Hid (ls.length = nl ∧ (0 < nl → la = some ⟨lbk, 0, none⟩)) := ⟨hnl, hla⟩
    clear m3 hnl hla hcells
    go_simp
    refine hK _ _ HS3 ?_; clear hK K
    (refine J00 rfl (by kernel_rfl) (fun K hK => ?_); go_simp; refine hK _ _ ?_; clear hK K)
    refine J04 ?_
    clear k0 k1 k2 k3 hne HSd HS3 q0 q1 q2 q3 q4 zb zc zl
    go_wp2_with (fail)
    go_loopg [7, 8] nl (fun g3 bv iv wr3 => ∃ (j : Nat) (bb : Bool), j + g3 = nl ∧ iv = .int .i64 j ∧ bv = .bool bb ∧ wr3 = w3 ∧ Hid (bb = true ↔ ∃ (i : Nat) (x : Nat × KS), i < j ∧ ls[i]? = some x ∧ p.cl ≤ x.1))
    case atStart => exact ⟨0, false, by omega, rfl, rfl, rfl, ⟨fun h => absurd h (by simp), fun ⟨i, x, h, _⟩ => absurd h (Nat.not_lt_zero _)⟩⟩
    case round =>
     obtain ⟨j, bb, hjg, rfl, rfl, rfl, HJ⟩ := hrel
     obtain ⟨w3, rfl⟩ : ∃ w3, w3 = wr := ⟨wr, rfl⟩
     cases gk with
     | succ g3 =>
      have hj : j < nl := by omega
      have hji : (j : Int) < nl := by omega
      have hnli : (nl : Int) ≤ 2 := by omega
      obtain ⟨x, hx⟩ : ∃ x, ls[j]? = some x := ⟨ls[j]'(by rw [Hnl.out.1]; exact hj), List.getElem?_eq_getElem _⟩
      obtain rfl : la = some ⟨lbk, 0, none⟩ := Hnl.out.2 (by omega)
      have l0 := Hce.out j x hx
      have Hx : Hid (ls[j]? = some x) := hx
      obtain ⟨xto, xs⟩ := x
      dsimp only at l0
      clear hx
      obtain ⟨dd, hdd⟩ : ∃ d, decide (cl ≤ xto) = d := ⟨_, rfl⟩
      have Hnx : Hid ((bb || dd) = true ↔ ∃ (i : Nat) (x : Nat × KS), i < j + 1 ∧ ls[i]? = some x ∧ p.cl ≤ x.1) := by
       rw [Bool.or_eq_true, HJ.out]
       constructor
       ·rintro (⟨i, x, h1, h2, h3⟩ | h)
        ·exact ⟨i, x, by omega, h2, h3⟩
        ·refine ⟨j, _, by omega, Hx.out, ?_⟩
         rw [← hdd, decide_eq_true_eq] at h
         have := Hcl.out
         dsimp only; omega
       ·rintro ⟨i, x, h1, h2, h3⟩
        by_cases e : i = j
        ·subst e
         rw [Hx.out] at h2
         cases h2
         right
         rw [← hdd, decide_eq_true_eq]
         have := Hcl.out
         dsimp only at h3; omega
        ·exact .inl ⟨i, x, by omega, h2, h3⟩
      clear HJ
      cases bb
      ·simp only [Bool.false_or] at Hnx
       go_wp2
       go_roundg g3
       case measure => omega
       case rel => exact ⟨j + 1, dd, by omega, by first | rfl | simp, rfl, rfl, Hnx.out⟩
      ·simp only [Bool.true_or] at Hnx
       clear hdd
       go_wp2
       go_roundg g3
       case measure => omega
       case rel => exact ⟨j + 1, true, by omega, by first | rfl | simp, rfl, rfl, ⟨fun _ => Hnx.out.1 trivial, fun _ => rfl⟩⟩
     | zero =>
      have HO : Hid (bb = outK p k) := by
       show _ = _
       rw [Bool.eq_iff_iff, HJ.out, ← Hls.out]
       constructor
       ·rintro ⟨i, x, _, h2, h3⟩; exact ⟨i, x, h2, h3⟩
       ·rintro ⟨i, x, h2, h3⟩
        have : i < ls.length := (List.getElem?_eq_some_iff.1 h2).1
        exact ⟨i, x, by rw [Hnl.out.1] at this; omega, h2, h3⟩
      clear HJ
      obtain ⟨sc, hsc⟩ : ∃ x, J0g p (p.ins k) s = x := ⟨_, rfl⟩
      have Hsc2 : Hid (J0g p (p.ins k) s = sc) := hsc
      have Csec : Hid (∀ w1 : World, More wm w1 → Calls Try.prog 36 #[.agg #[.slice ra p.rl rc, .slice (some ⟨cb, co, none⟩) cl cc], .agg #[.int .i64 op, .int .i64 a, .int .i64 b, .int .i64 ic, .int .i64 n], .slice (some ⟨gs, 0, none⟩) 8 cs] w1 fun e w' => e = .returned (.bool sc) ∧ More w1 w') := fun w1 m => by
       have := J7n p ⟨ra, rb, ro, rc, some ⟨cb, co, none⟩, cb, co, cc⟩ k gs cs s w1 (H.out.1.more ((HM0.out.trans HMm.out).trans m)) Hi.out (Hks.out.more m)
       rw [hsc, HI.out] at this
       dsimp only at this
       rw [Hcl.out] at this
       exact this
      clear hsc
      have HB3 : Hid (Blk w3 wm.heap.size #[.int .i64 op, .int .i64 a, .int .i64 b, .int .i64 ic, .int .i64 n] 67) := HB8.out.more HM3.out
      have i0 : w3.cell? ⟨wm.heap.size, 0, none⟩ = some (.int .i64 op) := HB3.out.cell rfl
      have Hrf : Hid (More w3 w3) := More.refl _
      by_cases hop : op = 3 ∨ op = 4
      ·-- a word at an index
       rcases hop with rfl | rfl
       all_goals
        have hI := Hi.out
        unfold InsOk Reg Rgn at hI
        rw [HI.out] at hI
        simp at hI
        obtain rfl : ra = some ⟨rb, ro, none⟩ := H.out.1.hr (by omega)
        obtain ⟨lg, hlg⟩ : ∃ x, p.log ic.toNat = x := ⟨_, rfl⟩
        have Hlg : Hid (∀ w' : World, More wm w' → w'.cell? ⟨rb, ro + ic.toNat * 2, none⟩ = some (.int .i64 lg)) := fun w' m => by
         have := ((H.out.1.more ((HM0.out.trans HMm.out).trans m)).regs ic.toNat (by omega)).1
         rw [hlg] at this; exact this
        obtain ⟨xb, hxb⟩ : ∃ x, s b.toNat = x := ⟨_, rfl⟩
        obtain ⟨v, hv⟩ : ∃ v, Kn.index xb n = v := ⟨_, rfl⟩
        have hnn := H.out.2.2 k Hpk.out
        rw [HI.out] at hnn
        dsimp only at hnn
        have Cix : Hid (∀ w : World, Calls Try.prog 35 #[kn xb.b xb.s, .int .i64 n] w fun e w' => e = .returned (kn v.b v.s) ∧ More w w') := fun w => hv ▸ J5m xb n hnn.1 hnn.2 w
        have HbK : Hid (J1i p (p.ins k) s = (decide (n < 0) || decide (lg < v.b))) := by
         show _ = _
         unfold J1i; rw [HI.out]; dsimp only
         rw [hxb, hv, hlg]; simp
        have b0 : 0 ≤ b := by omega
        have b1 : b < 8 := by omega
        have ic0 : 0 ≤ ic := by omega
        have ic1 : ic < p.rl := by omega
        have Hxb : Hid (s b.toNat = ⟨xb.b, xb.s⟩) := hxb
        clear hlg hxb hv hI hnn
        obtain ⟨vb, vs⟩ := v
        obtain ⟨xbb, xbs⟩ := xb
        unfold kn at Cix
        dsimp only at Cix HbK Hxb
        obtain ⟨T, HT⟩ : ∃ T : World → Prop, Hid (∀ w', T w' ↔ More w3 w') := ⟨_, fun _ => Iff.rfl⟩
        have HT0 : T w3.drew := (HT.out _).2 (More.refl _).drew
        have hneT : Nonempty { w' // T w' } := ⟨⟨_, HT0⟩⟩
        have HMt : Hid (More wm w3) := HM8.out.trans HM3.out
        have k0 : ∀ i : { w' // T w' }, i.val.cell? ⟨lb, k * 2 + 1, none⟩ = some (.slice (some ⟨gs, 0, none⟩) 8 cs) := fun i => (HMt.out.trans ((HT.out _).1 i.property)).cell c1
        have k1 : ∀ i : { w' // T w' }, i.val.cell? ⟨gs, b.toNat * 2, none⟩ = some (.int .i64 xbb) := fun i => by have := ((Hks.out.more (HMt.out.trans ((HT.out _).1 i.property))) b.toNat (by omega)).1.1; rw [Hxb.out] at this; exact this
        have k2 : ∀ i : { w' // T w' }, i.val.cell? ⟨gs, b.toNat * 2 + 1, none⟩ = some (.bool xbs) := fun i => by have := ((Hks.out.more (HMt.out.trans ((HT.out _).1 i.property))) b.toNat (by omega)).1.2; rw [Hxb.out] at this; exact this
        have k3 : ∀ i : { w' // T w' }, i.val.cell? ⟨wm.heap.size, 2, none⟩ = some (.int .i64 b) := fun i => (HB3.out.more ((HT.out _).1 i.property)).cell rfl
        have k4 : ∀ i : { w' // T w' }, i.val.cell? ⟨wm.heap.size, 4, none⟩ = some (.int .i64 n) := fun i => (HB3.out.more ((HT.out _).1 i.property)).cell rfl
        have k5 : True := trivial
        have k6 : True := trivial
        have k7 : True := trivial
        go_wp2_with (fail)
        clear i0
        refine J1d (S := T) (by kernel_rfl) HT0 ?_
        refine J07 0 rfl (by kernel_rfl) HT0 (by kernel_rfl) (fun K hK => ?_); go_simp; refine hK _ _ ?_; clear hK K
        refine J07 1 rfl (by kernel_rfl) HT0 (by kernel_rfl) (fun K hK => ?_); go_simp; refine hK _ _ ?_; clear hK K
        refine J07 2 rfl (by kernel_rfl) HT0 (by kernel_rfl) (fun K hK => ?_); go_simp; refine hK _ _ ?_; clear hK K
        refine J07 3 rfl (by kernel_rfl) HT0 (by kernel_rfl) (fun K hK => ?_); go_simp; refine hK _ _ ?_; clear hK K
        refine J07 4 rfl (by kernel_rfl) HT0 (by kernel_rfl) (fun K hK => ?_); go_simp; refine hK _ _ ?_; clear hK K
        refine J07 5 rfl (by kernel_rfl) HT0 (by kernel_rfl) (fun K hK => ?_); go_simp; refine hK _ _ ?_; clear hK K
        refine J07 6 rfl (by kernel_rfl) HT0 (by kernel_rfl) (fun K hK => ?_); go_simp; refine hK _ _ ?_; clear hK K
        refine J07 7 rfl (by kernel_rfl) HT0 (by kernel_rfl) (fun K hK => ?_); go_simp; refine hK _ _ ?_; clear hK K
        refine J07 8 rfl (by kernel_rfl) HT0 (by kernel_rfl) (fun K hK => ?_); go_simp; refine hK _ _ ?_; clear hK K
        refine J07 9 rfl (by kernel_rfl) HT0 (by kernel_rfl) (fun K hK => ?_); go_simp; refine hK _ _ ?_; clear hK K
        refine J07 10 rfl (by kernel_rfl) HT0 (by kernel_rfl) (fun K hK => ?_); go_simp; refine hK _ _ ?_; clear hK K
        refine J3e 11 12 (by kernel_rfl) ?_ ?_
        ·-- the call, then the new block
         refine J09 rfl (by kernel_rfl) (fun K hK => ?_); go_simp
         refine (Cix.out _).mono ?_
         rintro e w5 ⟨rfl, m5⟩
         have M5 : Hid (More w3 w5) := (More.refl _).drew.trans m5
         clear m5
         go_simp
         refine hK _ _ ((HT.out _).2 M5.out) ?_; clear hK K
         refine J10 12 (by kernel_rfl) ?_
         refine J09 rfl (by kernel_rfl) (fun K hK => ?_); go_simp
         refine hK _ _ ((HT.out _).2 (M5.out.alloc _ _)) ?_; clear hK K
         refine J10 13 (by kernel_rfl) ?_
         refine J09 rfl (by kernel_rfl) (fun K hK => ?_); go_simp
         obtain ⟨w6, Hw6⟩ : ∃ w6 : World, Hid (w6 = w5.alloc (.cells #[.int .i64 vb, .bool vs] 23)) := ⟨_, rfl⟩
         have HM6 : Hid (More w3 w6) := Hw6.out ▸ M5.out.alloc _ _
         obtain ⟨bx, Hbx⟩ : ∃ bx, Hid (bx = w5.heap.size) := ⟨_, rfl⟩
         have HB6 : Hid (Blk w6 bx #[.int .i64 vb, .bool vs] 23) := Hw6.out ▸ Hbx.out ▸ Blk.last _ _ _
         rw [← Hw6.out, ← Hbx.out]
         refine hK _ _ ((HT.out _).2 HM6.out) ?_; clear hK K
         refine J3h (by kernel_rfl) ?_
         clear k0 k1 k2 k3 k4 k5 k6 k7 hneT HT0
         have HMy : Hid (More wm w6) := (HM8.out.trans HM3.out).trans HM6.out
         have HBi : Hid (Blk w6 wm.heap.size #[.int .i64 _, .int .i64 a, .int .i64 b, .int .i64 ic, .int .i64 n] 67) := HB3.out.more HM6.out
         obtain ⟨X, HX⟩ : ∃ X : World → Prop, Hid (∀ w', X w' ↔ More w6 w') := ⟨_, fun _ => Iff.rfl⟩
         have HX0 : X w6.drew := (HX.out _).2 (More.refl _).drew
         have hneX : Nonempty { w' // X w' } := ⟨⟨_, HX0⟩⟩
         have x0 : ∀ i : { w' // X w' }, i.val.cell? ⟨bx, 0, none⟩ = some (.int .i64 vb) := fun i => (HB6.out.more ((HX.out _).1 i.property)).cell rfl
         have x1 : ∀ i : { w' // X w' }, i.val.cell? ⟨wm.heap.size, 4, none⟩ = some (.int .i64 n) := fun i => (HBi.out.more ((HX.out _).1 i.property)).cell rfl
         have x2 : ∀ i : { w' // X w' }, i.val.cell? ⟨wm.heap.size, 3, none⟩ = some (.int .i64 ic) := fun i => (HBi.out.more ((HX.out _).1 i.property)).cell rfl
         have x3 : ∀ i : { w' // X w' }, i.val.cell? ⟨w.heap.size, 0, none⟩ = some (.slice (some ⟨rb, ro, none⟩) p.rl rc) := fun i => (HMy.out.trans ((HX.out _).1 i.property)).cell p0
         have x4 : ∀ i : { w' // X w' }, i.val.cell? ⟨rb, ro + ic.toNat * 2, none⟩ = some (.int .i64 lg) := fun i => Hlg.out _ (HMy.out.trans ((HX.out _).1 i.property))
         have x5 : True := trivial
         go_wp2_with (fail)
         refine J01 (S := X) [(0, true), (1, true), (2, true), (3, true), (4, true), (5, true), (6, true), (7, true), (8, true), (9, true), (10, true), (11, true), (12, true), (13, true), (14, true), (15, true), (16, true), (17, true), (18, true)] (by kernel_rfl) (by kernel_rfl) (by kernel_rfl) HX0 ?_
         iterate 2 (refine J00 rfl (by kernel_rfl) (fun K hK => ?_); go_simp; refine hK _ _ ?_; clear hK K)
         cases bb with
         | true =>
          iterate 3 (refine J28 rfl HX0 (by kernel_rfl) (fun K hK => ?_); go_simp; refine hK _ _ ?_; clear hK K)
          refine J0m rfl rfl (by kernel_rfl) rfl (fun K hK => ?_); go_simp; refine hK _ _ ?_; clear hK K
          (refine J00 rfl (by kernel_rfl) (fun K hK => ?_); go_simp; refine hK _ _ ?_; clear hK K)
          iterate 10 (refine J28 rfl HX0 (by kernel_rfl) (fun K hK => ?_); go_simp; refine hK _ _ ?_; clear hK K)
          refine J0m rfl rfl (by kernel_rfl) rfl (fun K hK => ?_); go_simp; refine hK _ _ ?_; clear hK K
          (refine J00 rfl (by kernel_rfl) (fun K hK => ?_); go_simp; refine hK _ _ ?_; clear hK K)
          have Hck : Hid (J0c p L = (4, (k : Int))) := by
           show _ = _
           have hf : J0s p k s = 4 := by unfold J0s; rw [← HO.out]; rfl
           rw [Hn2.out, hf]; rfl
          refine J04 ?_
          clear x0 x1 x2 x3 x4 x5 hneX HX0
          have HMz : Hid (More W0 w6.drew) := (((HMm.out.trans HM8.out).trans HM3.out).trans HM6.out).drew
          have t0 : w6.cell? ⟨w.heap.size + 1, 0, none⟩ = some (.int .i64 0) := (HRES.out.more (((HMm.out.trans HM8.out).trans HM3.out).trans HM6.out)).cell rfl
          have t1 : w6.cell? ⟨w.heap.size + 1, 1, none⟩ = some (.int .i64 0) := (HRES.out.more (((HMm.out.trans HM8.out).trans HM3.out).trans HM6.out)).cell rfl
          have u0 : w6.frozen? ⟨w.heap.size + 1, 0, none⟩ = false := (HRES.out.more (((HMm.out.trans HM8.out).trans HM3.out).trans HM6.out)).frozen 0
          have u1 : w6.frozen? ⟨w.heap.size + 1, 1, none⟩ = false := (HRES.out.more (((HMm.out.trans HM8.out).trans HM3.out).trans HM6.out)).frozen 1
          go_wp2
          refine bodyPost_ret (v := flt 4 k) (by simp [flt, results, Try.results14, go_sem, *]) rfl ?_
          have hE := HP.out L HV2.out.2 _ (((HM0.out.trans (((HMm.out.trans HM8.out).trans HM3.out).trans HM6.out)).setCell (a := ⟨w.heap.size + 1, 0, none⟩) (by dsimp only; omega) (.int .i64 4)).setCell (a := ⟨w.heap.size + 1, 1, none⟩) (by dsimp only; omega) (.int .i64 k)).drew
          rw [Hck.out] at hE
          exact hE
         | false =>
          by_cases hn0 : n < 0
          ·have hdn : decide (n < 0) = true := by simp [hn0]
           have Hbd : Hid (J1i p (p.ins k) s = true) := by show _ = _; rw [HbK.out, hdn]; rfl
           iterate 3 (refine J00 rfl (by kernel_rfl) (fun K hK => ?_); go_simp; refine hK _ _ ?_; clear hK K)
           refine J0i rfl rfl (by kernel_rfl) rfl (fun K hK => ?_); go_simp; refine hK _ _ ?_; clear hK K
           (refine J00 rfl (by kernel_rfl) (fun K hK => ?_); go_simp; refine hK _ _ ?_; clear hK K)
           iterate 10 (refine J28 rfl HX0 (by kernel_rfl) (fun K hK => ?_); go_simp; refine hK _ _ ?_; clear hK K)
           refine J0m rfl rfl (by kernel_rfl) rfl (fun K hK => ?_); go_simp; refine hK _ _ ?_; clear hK K
           (refine J00 rfl (by kernel_rfl) (fun K hK => ?_); go_simp; refine hK _ _ ?_; clear hK K)
           have Hck : Hid (J0c p L = (4, (k : Int))) := by
            show _ = _
            have hf : J0s p k s = 4 := by unfold J0s; rw [Hbd.out, Bool.or_true]; rfl
            rw [Hn2.out, hf]; rfl
           refine J04 ?_
           clear x0 x1 x2 x3 x4 x5 hneX HX0
           have HMz : Hid (More W0 w6.drew) := (((HMm.out.trans HM8.out).trans HM3.out).trans HM6.out).drew
           have t0 : w6.cell? ⟨w.heap.size + 1, 0, none⟩ = some (.int .i64 0) := (HRES.out.more (((HMm.out.trans HM8.out).trans HM3.out).trans HM6.out)).cell rfl
           have t1 : w6.cell? ⟨w.heap.size + 1, 1, none⟩ = some (.int .i64 0) := (HRES.out.more (((HMm.out.trans HM8.out).trans HM3.out).trans HM6.out)).cell rfl
           have u0 : w6.frozen? ⟨w.heap.size + 1, 0, none⟩ = false := (HRES.out.more (((HMm.out.trans HM8.out).trans HM3.out).trans HM6.out)).frozen 0
           have u1 : w6.frozen? ⟨w.heap.size + 1, 1, none⟩ = false := (HRES.out.more (((HMm.out.trans HM8.out).trans HM3.out).trans HM6.out)).frozen 1
           go_wp2
           refine bodyPost_ret (v := flt 4 k) (by simp [flt, results, Try.results14, go_sem, *]) rfl ?_
           have hE := HP.out L HV2.out.2 _ (((HM0.out.trans (((HMm.out.trans HM8.out).trans HM3.out).trans HM6.out)).setCell (a := ⟨w.heap.size + 1, 0, none⟩) (by dsimp only; omega) (.int .i64 4)).setCell (a := ⟨w.heap.size + 1, 1, none⟩) (by dsimp only; omega) (.int .i64 k)).drew
           rw [Hck.out] at hE
           exact hE
          ·have hdn : decide (n < 0) = false := by simp [hn0]
           iterate 3 (refine J00 rfl (by kernel_rfl) (fun K hK => ?_); go_simp; refine hK _ _ ?_; clear hK K)
           refine J0i rfl rfl (by kernel_rfl) rfl (fun K hK => ?_); go_simp; refine hK _ _ ?_; clear hK K
           iterate 11 (refine J00 rfl (by kernel_rfl) (fun K hK => ?_); go_simp; refine hK _ _ ?_; clear hK K)
           refine J0i rfl rfl (by kernel_rfl) rfl (fun K hK => ?_); go_simp; refine hK _ _ ?_; clear hK K
           (refine J00 rfl (by kernel_rfl) (fun K hK => ?_); go_simp; refine hK _ _ ?_; clear hK K)
           by_cases hlv : lg < vb
           ·have Hbd : Hid (J1i p (p.ins k) s = true) := by show _ = _; rw [HbK.out, hdn, decide_eq_true hlv]; rfl
            have Hck : Hid (J0c p L = (4, (k : Int))) := by
             show _ = _
             have hf : J0s p k s = 4 := by unfold J0s; rw [Hbd.out, Bool.or_true]; rfl
             rw [Hn2.out, hf]; rfl
            refine J04 ?_
            clear x0 x1 x2 x3 x4 x5 hneX HX0
            have HMz : Hid (More W0 w6.drew) := (((HMm.out.trans HM8.out).trans HM3.out).trans HM6.out).drew
            have t0 : w6.cell? ⟨w.heap.size + 1, 0, none⟩ = some (.int .i64 0) := (HRES.out.more (((HMm.out.trans HM8.out).trans HM3.out).trans HM6.out)).cell rfl
            have t1 : w6.cell? ⟨w.heap.size + 1, 1, none⟩ = some (.int .i64 0) := (HRES.out.more (((HMm.out.trans HM8.out).trans HM3.out).trans HM6.out)).cell rfl
            have u0 : w6.frozen? ⟨w.heap.size + 1, 0, none⟩ = false := (HRES.out.more (((HMm.out.trans HM8.out).trans HM3.out).trans HM6.out)).frozen 0
            have u1 : w6.frozen? ⟨w.heap.size + 1, 1, none⟩ = false := (HRES.out.more (((HMm.out.trans HM8.out).trans HM3.out).trans HM6.out)).frozen 1
            go_wp2
            refine bodyPost_ret (v := flt 4 k) (by simp [flt, results, Try.results14, go_sem, *]) rfl ?_
            have hE := HP.out L HV2.out.2 _ (((HM0.out.trans (((HMm.out.trans HM8.out).trans HM3.out).trans HM6.out)).setCell (a := ⟨w.heap.size + 1, 0, none⟩) (by dsimp only; omega) (.int .i64 4)).setCell (a := ⟨w.heap.size + 1, 1, none⟩) (by dsimp only; omega) (.int .i64 k)).drew
            rw [Hck.out] at hE
            exact hE
           ·have hdl : decide (lg < vb) = false := by simp [hlv]
            have Hno : Hid ((outK p k || J1i p (p.ins k) s) = false) := by show _ = _; rw [← HO.out, HbK.out, hdn, hdl]; rfl
            refine J04 ?_
            clear x0 x1 x2 x3 x4 x5 hneX HX0
            have HMd : Hid (More w3 w6.drew) := HM6.out.drew
            obtain ⟨w7, Hw7⟩ : ∃ w7 : World, Hid (w7 = w6.drew) := ⟨_, rfl⟩
            have HMe : Hid (More w3 w7) := Hw7.out ▸ HMd.out
            rw [← Hw7.out]
            have HMx : Hid (More wm w7) := (HM8.out.trans HM3.out).trans HMe.out
            have HBx : Hid (Blk w7 wm.heap.size #[.int .i64 _, .int .i64 a, .int .i64 b, .int .i64 ic, .int .i64 n] 67) := (HB8.out.more HM3.out).more HMe.out
            obtain ⟨U, HU⟩ : ∃ U : World → Prop, Hid (∀ w', U w' ↔ More w7 w') := ⟨_, fun _ => Iff.rfl⟩
            have HU0 : U w7.drew := (HU.out _).2 (More.refl _).drew
            have hneU : Nonempty { w' // U w' } := ⟨⟨_, HU0⟩⟩
            have g0 : ∀ i : { w' // U w' }, i.val.cell? ⟨w.heap.size, 0, none⟩ = some (.slice (some ⟨rb, ro, none⟩) p.rl rc) := fun i => (HMx.out.trans ((HU.out _).1 i.property)).cell p0
            have g1 : ∀ i : { w' // U w' }, i.val.cell? ⟨w.heap.size, 1, none⟩ = some (.slice (some ⟨cb, co, none⟩) cl cc) := fun i => (HMx.out.trans ((HU.out _).1 i.property)).cell p1
            have g2 : ∀ i : { w' // U w' }, i.val.cell? ⟨lb, k * 2 + 1, none⟩ = some (.slice (some ⟨gs, 0, none⟩) 8 cs) := fun i => (HMx.out.trans ((HU.out _).1 i.property)).cell c1
            have g3 : ∀ i : { w' // U w' }, i.val.cell? ⟨wm.heap.size, 0, none⟩ = some (.int .i64 _) := fun i => (HBx.out.more ((HU.out _).1 i.property)).cell rfl
            have g4 : ∀ i : { w' // U w' }, i.val.cell? ⟨wm.heap.size, 1, none⟩ = some (.int .i64 a) := fun i => (HBx.out.more ((HU.out _).1 i.property)).cell rfl
            have g5 : ∀ i : { w' // U w' }, i.val.cell? ⟨wm.heap.size, 2, none⟩ = some (.int .i64 b) := fun i => (HBx.out.more ((HU.out _).1 i.property)).cell rfl
            have g6 : ∀ i : { w' // U w' }, i.val.cell? ⟨wm.heap.size, 3, none⟩ = some (.int .i64 ic) := fun i => (HBx.out.more ((HU.out _).1 i.property)).cell rfl
            have g7 : ∀ i : { w' // U w' }, i.val.cell? ⟨wm.heap.size, 4, none⟩ = some (.int .i64 n) := fun i => (HBx.out.more ((HU.out _).1 i.property)).cell rfl
            go_wp2_with (fail)
            refine J01 (S := U) [(0, true), (1, true), (2, true), (3, true), (4, true), (5, true), (6, true), (7, false)] (by kernel_rfl) (by kernel_rfl) (by kernel_rfl) HU0 ?_
            iterate 7 (refine J00 rfl (by kernel_rfl) (fun K hK => ?_); go_simp; refine hK _ _ ?_; clear hK K)
            refine J02 rfl (by kernel_rfl) (fun K hK => ?_); go_simp
            refine (Csec.out _ (HMx.out.drew)).mono ?_
            rintro e w9 ⟨rfl, m9⟩
            have HM9 : Hid (More w7 w9) := (More.refl _).drew.trans m9
            have HU9 : U w9 := (HU.out _).2 HM9.out
            clear m9
            cases sc with
            | true =>
             have Hck : Hid (J0c p L = (5, (k : Int))) := by
              show _ = _
              have hf : J0s p k s = 5 := by unfold J0s; rw [Hno.out, Hsc2.out]; rfl
              rw [Hn2.out, hf]; rfl
             go_simp
             refine hK _ _ HU9 ?_; clear hK K
             refine J04 ?_
             clear g0 g1 g2 g3 g4 g5 g6 g7 hneU HU0 HU9
             have t0 := (HRES.out.more ((HMm.out.trans HMx.out).trans HM9.out)).cell (j := 0) (v := .int .i64 0) rfl
             have t1 := (HRES.out.more ((HMm.out.trans HMx.out).trans HM9.out)).cell (j := 1) (v := .int .i64 0) rfl
             have u0 := (HRES.out.more ((HMm.out.trans HMx.out).trans HM9.out)).frozen 0
             have u1 := (HRES.out.more ((HMm.out.trans HMx.out).trans HM9.out)).frozen 1
             go_wp2
             refine bodyPost_ret (v := flt 5 k) (by simp [flt, results, Try.results14, go_sem, *]) rfl ?_
             have hE := HP.out L HV2.out.2 _ (((HM0.out.trans ((HMm.out.trans HMx.out).trans HM9.out)).setCell (a := ⟨w.heap.size + 1, 0, none⟩) (by dsimp only; omega) (.int .i64 5)).setCell (a := ⟨w.heap.size + 1, 1, none⟩) (by dsimp only; omega) (.int .i64 k))
             rw [Hck.out] at hE
             exact hE
            | false =>
             have Hck : Hid (J0c p L = scanK p L g (k + 1)) := by
              show _ = _
              have hf : J0s p k s = 0 := by unfold J0s; rw [Hno.out, Hsc2.out]; rfl
              rw [Hn2.out, if_pos hf]
             go_simp
             refine hK _ _ HU9 ?_; clear hK K
             refine J04 ?_
             clear g0 g1 g2 g3 g4 g5 g6 g7 hneU HU0 HU9
             go_wp2
             go_roundg g
             case measure => omega
             case rel => exact ⟨k + 1, by omega, by first | rfl | simp, (HMw.out.trans HMx.out).trans HM9.out, Hck.out⟩
        ·-- the new block, then the call
         refine J09 rfl (by kernel_rfl) (fun K hK => ?_); go_simp
         refine hK _ _ ((HT.out _).2 ((More.refl _).drew.alloc _ _)) ?_; clear hK K
         refine J10 11 (by kernel_rfl) ?_
         refine J09 rfl (by kernel_rfl) (fun K hK => ?_); go_simp
         refine (Cix.out _).mono ?_
         rintro e w5 ⟨rfl, m5⟩
         have M5 : Hid (More w3 w5) := ((More.refl _).drew.alloc _ _).trans m5
         have HB5 : Hid (Blk w5 w3.heap.size #[.int .i64 0, .bool false] 23) := (Blk.last w3.drew _ _).more m5
         clear m5
         go_simp
         refine hK _ _ ((HT.out _).2 M5.out) ?_; clear hK K
         refine J10 13 (by kernel_rfl) ?_
         have y0 := HB5.out.cell (j := 0) (v := .int .i64 0) rfl
         have y1 := HB5.out.cell (j := 1) (v := .bool false) rfl
         have y2 := HB5.out.frozen 0
         have y3 := HB5.out.frozen 1
         refine J09 rfl (by kernel_rfl) (fun K hK => ?_); go_simp
         obtain ⟨w6, Hw6⟩ : ∃ w6 : World, Hid (w6 = (w5.setCell ⟨w3.heap.size, 0, none⟩ (.int .i64 vb)).setCell ⟨w3.heap.size, 1, none⟩ (.bool vs)) := ⟨_, rfl⟩
         have HM6 : Hid (More w3 w6) := Hw6.out ▸ (M5.out.setCell (Nat.le_refl _) _).setCell (Nat.le_refl _) _
         obtain ⟨bx, Hbx⟩ : ∃ bx, Hid (bx = w3.heap.size) := ⟨_, rfl⟩
         have HB6 : Hid (Blk w6 bx #[.int .i64 vb, .bool vs] 23) := by
          show Blk _ _ _ _
          rw [Hw6.out, Hbx.out]
          have h1 := HB5.out
          unfold Blk at h1 ⊢
          simp [World.setCell, Array.getElem?_modify, h1]
         rw [← Hw6.out]
         simp only [← Hbx.out]
         clear y0 y1 y2 y3
         refine hK _ _ ((HT.out _).2 HM6.out) ?_; clear hK K
         refine J3h (by kernel_rfl) ?_
         clear k0 k1 k2 k3 k4 k5 k6 k7 hneT HT0
         have HMy : Hid (More wm w6) := (HM8.out.trans HM3.out).trans HM6.out
         have HBi : Hid (Blk w6 wm.heap.size #[.int .i64 _, .int .i64 a, .int .i64 b, .int .i64 ic, .int .i64 n] 67) := HB3.out.more HM6.out
         obtain ⟨X, HX⟩ : ∃ X : World → Prop, Hid (∀ w', X w' ↔ More w6 w') := ⟨_, fun _ => Iff.rfl⟩
         have HX0 : X w6.drew := (HX.out _).2 (More.refl _).drew
         have hneX : Nonempty { w' // X w' } := ⟨⟨_, HX0⟩⟩
         have x0 : ∀ i : { w' // X w' }, i.val.cell? ⟨bx, 0, none⟩ = some (.int .i64 vb) := fun i => (HB6.out.more ((HX.out _).1 i.property)).cell rfl
         have x1 : ∀ i : { w' // X w' }, i.val.cell? ⟨wm.heap.size, 4, none⟩ = some (.int .i64 n) := fun i => (HBi.out.more ((HX.out _).1 i.property)).cell rfl
         have x2 : ∀ i : { w' // X w' }, i.val.cell? ⟨wm.heap.size, 3, none⟩ = some (.int .i64 ic) := fun i => (HBi.out.more ((HX.out _).1 i.property)).cell rfl
         have x3 : ∀ i : { w' // X w' }, i.val.cell? ⟨w.heap.size, 0, none⟩ = some (.slice (some ⟨rb, ro, none⟩) p.rl rc) := fun i => (HMy.out.trans ((HX.out _).1 i.property)).cell p0
         have x4 : ∀ i : { w' // X w' }, i.val.cell? ⟨rb, ro + ic.toNat * 2, none⟩ = some (.int .i64 lg) := fun i => Hlg.out _ (HMy.out.trans ((HX.out _).1 i.property))
         have x5 : True := trivial
         go_wp2_with (fail)
         refine J01 (S := X) [(0, true), (1, true), (2, true), (3, true), (4, true), (5, true), (6, true), (7, true), (8, true), (9, true), (10, true), (11, true), (12, true), (13, true), (14, true), (15, true), (16, true), (17, true), (18, true)] (by kernel_rfl) (by kernel_rfl) (by kernel_rfl) HX0 ?_
         iterate 2 (refine J00 rfl (by kernel_rfl) (fun K hK => ?_); go_simp; refine hK _ _ ?_; clear hK K)
         cases bb with
         | true =>
          iterate 3 (refine J28 rfl HX0 (by kernel_rfl) (fun K hK => ?_); go_simp; refine hK _ _ ?_; clear hK K)
          refine J0m rfl rfl (by kernel_rfl) rfl (fun K hK => ?_); go_simp; refine hK _ _ ?_; clear hK K
          (refine J00 rfl (by kernel_rfl) (fun K hK => ?_); go_simp; refine hK _ _ ?_; clear hK K)
          iterate 10 (refine J28 rfl HX0 (by kernel_rfl) (fun K hK => ?_); go_simp; refine hK _ _ ?_; clear hK K)
          refine J0m rfl rfl (by kernel_rfl) rfl (fun K hK => ?_); go_simp; refine hK _ _ ?_; clear hK K
          (refine J00 rfl (by kernel_rfl) (fun K hK => ?_); go_simp; refine hK _ _ ?_; clear hK K)
          have Hck : Hid (J0c p L = (4, (k : Int))) := by
           show _ = _
           have hf : J0s p k s = 4 := by unfold J0s; rw [← HO.out]; rfl
           rw [Hn2.out, hf]; rfl
          refine J04 ?_
          clear x0 x1 x2 x3 x4 x5 hneX HX0
          have HMz : Hid (More W0 w6.drew) := (((HMm.out.trans HM8.out).trans HM3.out).trans HM6.out).drew
          have t0 : w6.cell? ⟨w.heap.size + 1, 0, none⟩ = some (.int .i64 0) := (HRES.out.more (((HMm.out.trans HM8.out).trans HM3.out).trans HM6.out)).cell rfl
          have t1 : w6.cell? ⟨w.heap.size + 1, 1, none⟩ = some (.int .i64 0) := (HRES.out.more (((HMm.out.trans HM8.out).trans HM3.out).trans HM6.out)).cell rfl
          have u0 : w6.frozen? ⟨w.heap.size + 1, 0, none⟩ = false := (HRES.out.more (((HMm.out.trans HM8.out).trans HM3.out).trans HM6.out)).frozen 0
          have u1 : w6.frozen? ⟨w.heap.size + 1, 1, none⟩ = false := (HRES.out.more (((HMm.out.trans HM8.out).trans HM3.out).trans HM6.out)).frozen 1
          go_wp2
          refine bodyPost_ret (v := flt 4 k) (by simp [flt, results, Try.results14, go_sem, *]) rfl ?_
          have hE := HP.out L HV2.out.2 _ (((HM0.out.trans (((HMm.out.trans HM8.out).trans HM3.out).trans HM6.out)).setCell (a := ⟨w.heap.size + 1, 0, none⟩) (by dsimp only; omega) (.int .i64 4)).setCell (a := ⟨w.heap.size + 1, 1, none⟩) (by dsimp only; omega) (.int .i64 k)).drew
          rw [Hck.out] at hE
          exact hE
         | false =>
          by_cases hn0 : n < 0
          ·have hdn : decide (n < 0) = true := by simp [hn0]
           have Hbd : Hid (J1i p (p.ins k) s = true) := by show _ = _; rw [HbK.out, hdn]; rfl
           iterate 3 (refine J00 rfl (by kernel_rfl) (fun K hK => ?_); go_simp; refine hK _ _ ?_; clear hK K)
           refine J0i rfl rfl (by kernel_rfl) rfl (fun K hK => ?_); go_simp; refine hK _ _ ?_; clear hK K
           (refine J00 rfl (by kernel_rfl) (fun K hK => ?_); go_simp; refine hK _ _ ?_; clear hK K)
           iterate 10 (refine J28 rfl HX0 (by kernel_rfl) (fun K hK => ?_); go_simp; refine hK _ _ ?_; clear hK K)
           refine J0m rfl rfl (by kernel_rfl) rfl (fun K hK => ?_); go_simp; refine hK _ _ ?_; clear hK K
           (refine J00 rfl (by kernel_rfl) (fun K hK => ?_); go_simp; refine hK _ _ ?_; clear hK K)
           have Hck : Hid (J0c p L = (4, (k : Int))) := by
            show _ = _
            have hf : J0s p k s = 4 := by unfold J0s; rw [Hbd.out, Bool.or_true]; rfl
            rw [Hn2.out, hf]; rfl
           refine J04 ?_
           clear x0 x1 x2 x3 x4 x5 hneX HX0
           have HMz : Hid (More W0 w6.drew) := (((HMm.out.trans HM8.out).trans HM3.out).trans HM6.out).drew
           have t0 : w6.cell? ⟨w.heap.size + 1, 0, none⟩ = some (.int .i64 0) := (HRES.out.more (((HMm.out.trans HM8.out).trans HM3.out).trans HM6.out)).cell rfl
           have t1 : w6.cell? ⟨w.heap.size + 1, 1, none⟩ = some (.int .i64 0) := (HRES.out.more (((HMm.out.trans HM8.out).trans HM3.out).trans HM6.out)).cell rfl
           have u0 : w6.frozen? ⟨w.heap.size + 1, 0, none⟩ = false := (HRES.out.more (((HMm.out.trans HM8.out).trans HM3.out).trans HM6.out)).frozen 0
           have u1 : w6.frozen? ⟨w.heap.size + 1, 1, none⟩ = false := (HRES.out.more (((HMm.out.trans HM8.out).trans HM3.out).trans HM6.out)).frozen 1
           go_wp2
           refine bodyPost_ret (v := flt 4 k) (by simp [flt, results, Try.results14, go_sem, *]) rfl ?_
           have hE := HP.out L HV2.out.2 _ (((HM0.out.trans (((HMm.out.trans HM8.out).trans HM3.out).trans HM6.out)).setCell (a := ⟨w.heap.size + 1, 0, none⟩) (by dsimp only; omega) (.int .i64 4)).setCell (a := ⟨w.heap.size + 1, 1, none⟩) (by dsimp only; omega) (.int .i64 k)).drew
           rw [Hck.out] at hE
           exact hE
          ·have hdn : decide (n < 0) = false := by simp [hn0]
           iterate 3 (refine J00 rfl (by kernel_rfl) (fun K hK => ?_); go_simp; refine hK _ _ ?_; clear hK K)
           refine J0i rfl rfl (by kernel_rfl) rfl (fun K hK => ?_); go_simp; refine hK _ _ ?_; clear hK K
           iterate 11 (refine J00 rfl (by kernel_rfl) (fun K hK => ?_); go_simp; refine hK _ _ ?_; clear hK K)
           refine J0i rfl rfl (by kernel_rfl) rfl (fun K hK => ?_); go_simp; refine hK _ _ ?_; clear hK K
           (refine J00 rfl (by kernel_rfl) (fun K hK => ?_); go_simp; refine hK _ _ ?_; clear hK K)
           by_cases hlv : lg < vb
           ·have Hbd : Hid (J1i p (p.ins k) s = true) := by show _ = _; rw [HbK.out, hdn, decide_eq_true hlv]; rfl
            have Hck : Hid (J0c p L = (4, (k : Int))) := by
             show _ = _
             have hf : J0s p k s = 4 := by unfold J0s; rw [Hbd.out, Bool.or_true]; rfl
             rw [Hn2.out, hf]; rfl
            refine J04 ?_
            clear x0 x1 x2 x3 x4 x5 hneX HX0
            have HMz : Hid (More W0 w6.drew) := (((HMm.out.trans HM8.out).trans HM3.out).trans HM6.out).drew
            have t0 : w6.cell? ⟨w.heap.size + 1, 0, none⟩ = some (.int .i64 0) := (HRES.out.more (((HMm.out.trans HM8.out).trans HM3.out).trans HM6.out)).cell rfl
            have t1 : w6.cell? ⟨w.heap.size + 1, 1, none⟩ = some (.int .i64 0) := (HRES.out.more (((HMm.out.trans HM8.out).trans HM3.out).trans HM6.out)).cell rfl
            have u0 : w6.frozen? ⟨w.heap.size + 1, 0, none⟩ = false := (HRES.out.more (((HMm.out.trans HM8.out).trans HM3.out).trans HM6.out)).frozen 0
            have u1 : w6.frozen? ⟨w.heap.size + 1, 1, none⟩ = false := (HRES.out.more (((HMm.out.trans HM8.out).trans HM3.out).trans HM6.out)).frozen 1
            go_wp2
            refine bodyPost_ret (v := flt 4 k) (by simp [flt, results, Try.results14, go_sem, *]) rfl ?_
            have hE := HP.out L HV2.out.2 _ (((HM0.out.trans (((HMm.out.trans HM8.out).trans HM3.out).trans HM6.out)).setCell (a := ⟨w.heap.size + 1, 0, none⟩) (by dsimp only; omega) (.int .i64 4)).setCell (a := ⟨w.heap.size + 1, 1, none⟩) (by dsimp only; omega) (.int .i64 k)).drew
            rw [Hck.out] at hE
            exact hE
           ·have hdl : decide (lg < vb) = false := by simp [hlv]
            have Hno : Hid ((outK p k || J1i p (p.ins k) s) = false) := by show _ = _; rw [← HO.out, HbK.out, hdn, hdl]; rfl
            refine J04 ?_
            clear x0 x1 x2 x3 x4 x5 hneX HX0
            have HMd : Hid (More w3 w6.drew) := HM6.out.drew
            obtain ⟨w7, Hw7⟩ : ∃ w7 : World, Hid (w7 = w6.drew) := ⟨_, rfl⟩
            have HMe : Hid (More w3 w7) := Hw7.out ▸ HMd.out
            rw [← Hw7.out]
            have HMx : Hid (More wm w7) := (HM8.out.trans HM3.out).trans HMe.out
            have HBx : Hid (Blk w7 wm.heap.size #[.int .i64 _, .int .i64 a, .int .i64 b, .int .i64 ic, .int .i64 n] 67) := (HB8.out.more HM3.out).more HMe.out
            obtain ⟨U, HU⟩ : ∃ U : World → Prop, Hid (∀ w', U w' ↔ More w7 w') := ⟨_, fun _ => Iff.rfl⟩
            have HU0 : U w7.drew := (HU.out _).2 (More.refl _).drew
            have hneU : Nonempty { w' // U w' } := ⟨⟨_, HU0⟩⟩
            have g0 : ∀ i : { w' // U w' }, i.val.cell? ⟨w.heap.size, 0, none⟩ = some (.slice (some ⟨rb, ro, none⟩) p.rl rc) := fun i => (HMx.out.trans ((HU.out _).1 i.property)).cell p0
            have g1 : ∀ i : { w' // U w' }, i.val.cell? ⟨w.heap.size, 1, none⟩ = some (.slice (some ⟨cb, co, none⟩) cl cc) := fun i => (HMx.out.trans ((HU.out _).1 i.property)).cell p1
            have g2 : ∀ i : { w' // U w' }, i.val.cell? ⟨lb, k * 2 + 1, none⟩ = some (.slice (some ⟨gs, 0, none⟩) 8 cs) := fun i => (HMx.out.trans ((HU.out _).1 i.property)).cell c1
            have g3 : ∀ i : { w' // U w' }, i.val.cell? ⟨wm.heap.size, 0, none⟩ = some (.int .i64 _) := fun i => (HBx.out.more ((HU.out _).1 i.property)).cell rfl
            have g4 : ∀ i : { w' // U w' }, i.val.cell? ⟨wm.heap.size, 1, none⟩ = some (.int .i64 a) := fun i => (HBx.out.more ((HU.out _).1 i.property)).cell rfl
            have g5 : ∀ i : { w' // U w' }, i.val.cell? ⟨wm.heap.size, 2, none⟩ = some (.int .i64 b) := fun i => (HBx.out.more ((HU.out _).1 i.property)).cell rfl
            have g6 : ∀ i : { w' // U w' }, i.val.cell? ⟨wm.heap.size, 3, none⟩ = some (.int .i64 ic) := fun i => (HBx.out.more ((HU.out _).1 i.property)).cell rfl
            have g7 : ∀ i : { w' // U w' }, i.val.cell? ⟨wm.heap.size, 4, none⟩ = some (.int .i64 n) := fun i => (HBx.out.more ((HU.out _).1 i.property)).cell rfl
            go_wp2_with (fail)
            refine J01 (S := U) [(0, true), (1, true), (2, true), (3, true), (4, true), (5, true), (6, true), (7, false)] (by kernel_rfl) (by kernel_rfl) (by kernel_rfl) HU0 ?_
            iterate 7 (refine J00 rfl (by kernel_rfl) (fun K hK => ?_); go_simp; refine hK _ _ ?_; clear hK K)
            refine J02 rfl (by kernel_rfl) (fun K hK => ?_); go_simp
            refine (Csec.out _ (HMx.out.drew)).mono ?_
            rintro e w9 ⟨rfl, m9⟩
            have HM9 : Hid (More w7 w9) := (More.refl _).drew.trans m9
            have HU9 : U w9 := (HU.out _).2 HM9.out
            clear m9
            cases sc with
            | true =>
             have Hck : Hid (J0c p L = (5, (k : Int))) := by
              show _ = _
              have hf : J0s p k s = 5 := by unfold J0s; rw [Hno.out, Hsc2.out]; rfl
              rw [Hn2.out, hf]; rfl
             go_simp
             refine hK _ _ HU9 ?_; clear hK K
             refine J04 ?_
             clear g0 g1 g2 g3 g4 g5 g6 g7 hneU HU0 HU9
             have t0 := (HRES.out.more ((HMm.out.trans HMx.out).trans HM9.out)).cell (j := 0) (v := .int .i64 0) rfl
             have t1 := (HRES.out.more ((HMm.out.trans HMx.out).trans HM9.out)).cell (j := 1) (v := .int .i64 0) rfl
             have u0 := (HRES.out.more ((HMm.out.trans HMx.out).trans HM9.out)).frozen 0
             have u1 := (HRES.out.more ((HMm.out.trans HMx.out).trans HM9.out)).frozen 1
             go_wp2
             refine bodyPost_ret (v := flt 5 k) (by simp [flt, results, Try.results14, go_sem, *]) rfl ?_
             have hE := HP.out L HV2.out.2 _ (((HM0.out.trans ((HMm.out.trans HMx.out).trans HM9.out)).setCell (a := ⟨w.heap.size + 1, 0, none⟩) (by dsimp only; omega) (.int .i64 5)).setCell (a := ⟨w.heap.size + 1, 1, none⟩) (by dsimp only; omega) (.int .i64 k))
             rw [Hck.out] at hE
             exact hE
            | false =>
             have Hck : Hid (J0c p L = scanK p L g (k + 1)) := by
              show _ = _
              have hf : J0s p k s = 0 := by unfold J0s; rw [Hno.out, Hsc2.out]; rfl
              rw [Hn2.out, if_pos hf]
             go_simp
             refine hK _ _ HU9 ?_; clear hK K
             refine J04 ?_
             clear g0 g1 g2 g3 g4 g5 g6 g7 hneU HU0 HU9
             go_wp2
             go_roundg g
             case measure => omega
             case rel => exact ⟨k + 1, by omega, by first | rfl | simp, (HMw.out.trans HMx.out).trans HM9.out, Hck.out⟩
      ·have e3 : (op == 3) = false := by simp; omega
       have e4 : (op == 4) = false := by simp; omega
       have Hbd : Hid (J1i p (p.ins k) s = false) := by
        show _ = _
        unfold J1i; rw [HI.out]; dsimp only
        simp; omega
       clear hop
       cases bb with
       | true =>
        have Hck : Hid (J0c p L = (4, (k : Int))) := by
         show _ = _
         have hf : J0s p k s = 4 := by unfold J0s; rw [← HO.out]; rfl
         rw [Hn2.out, hf]; rfl
        have t0 := (HRES.out.more ((HMm.out.trans HM8.out).trans HM3.out)).cell (j := 0) (v := .int .i64 0) rfl
        have t1 := (HRES.out.more ((HMm.out.trans HM8.out).trans HM3.out)).cell (j := 1) (v := .int .i64 0) rfl
        have u0 := (HRES.out.more ((HMm.out.trans HM8.out).trans HM3.out)).frozen 0
        have u1 := (HRES.out.more ((HMm.out.trans HM8.out).trans HM3.out)).frozen 1
        go_wp2
        refine bodyPost_ret (v := flt 4 k) (by simp [flt, results, Try.results14, go_sem, *]) rfl ?_
        have hE := HP.out L HV2.out.2 _ (((HM0.out.trans ((HMm.out.trans HM8.out).trans HM3.out)).setCell (a := ⟨w.heap.size + 1, 0, none⟩) (by dsimp only; omega) (.int .i64 4)).setCell (a := ⟨w.heap.size + 1, 1, none⟩) (by dsimp only; omega) (.int .i64 k))
        rw [Hck.out] at hE
        exact hE
       | false =>
        have Hno : Hid ((outK p k || J1i p (p.ins k) s) = false) := by show _ = _; rw [← HO.out, Hbd.out]; rfl
        have HMx : Hid (More wm w3) := (HM8.out.trans HM3.out).trans Hrf.out
        have HBx : Hid (Blk w3 wm.heap.size #[.int .i64 op, .int .i64 a, .int .i64 b, .int .i64 ic, .int .i64 n] 67) := (HB8.out.more HM3.out).more Hrf.out
        obtain ⟨U, HU⟩ : ∃ U : World → Prop, Hid (∀ w', U w' ↔ More w3 w') := ⟨_, fun _ => Iff.rfl⟩
        have HU0 : U w3.drew := (HU.out _).2 (More.refl _).drew
        have hneU : Nonempty { w' // U w' } := ⟨⟨_, HU0⟩⟩
        have g0 : ∀ i : { w' // U w' }, i.val.cell? ⟨w.heap.size, 0, none⟩ = some (.slice ra p.rl rc) := fun i => (HMx.out.trans ((HU.out _).1 i.property)).cell p0
        have g1 : ∀ i : { w' // U w' }, i.val.cell? ⟨w.heap.size, 1, none⟩ = some (.slice (some ⟨cb, co, none⟩) cl cc) := fun i => (HMx.out.trans ((HU.out _).1 i.property)).cell p1
        have g2 : ∀ i : { w' // U w' }, i.val.cell? ⟨lb, k * 2 + 1, none⟩ = some (.slice (some ⟨gs, 0, none⟩) 8 cs) := fun i => (HMx.out.trans ((HU.out _).1 i.property)).cell c1
        have g3 : ∀ i : { w' // U w' }, i.val.cell? ⟨wm.heap.size, 0, none⟩ = some (.int .i64 op) := fun i => (HBx.out.more ((HU.out _).1 i.property)).cell rfl
        have g4 : ∀ i : { w' // U w' }, i.val.cell? ⟨wm.heap.size, 1, none⟩ = some (.int .i64 a) := fun i => (HBx.out.more ((HU.out _).1 i.property)).cell rfl
        have g5 : ∀ i : { w' // U w' }, i.val.cell? ⟨wm.heap.size, 2, none⟩ = some (.int .i64 b) := fun i => (HBx.out.more ((HU.out _).1 i.property)).cell rfl
        have g6 : ∀ i : { w' // U w' }, i.val.cell? ⟨wm.heap.size, 3, none⟩ = some (.int .i64 ic) := fun i => (HBx.out.more ((HU.out _).1 i.property)).cell rfl
        have g7 : ∀ i : { w' // U w' }, i.val.cell? ⟨wm.heap.size, 4, none⟩ = some (.int .i64 n) := fun i => (HBx.out.more ((HU.out _).1 i.property)).cell rfl
        go_wp2_with (fail)
        refine J01 (S := U) [(0, true), (1, true), (2, true), (3, true), (4, true), (5, true), (6, true), (7, false)] (by kernel_rfl) (by kernel_rfl) (by kernel_rfl) HU0 ?_
        iterate 7 (refine J00 rfl (by kernel_rfl) (fun K hK => ?_); go_simp; refine hK _ _ ?_; clear hK K)
        refine J02 rfl (by kernel_rfl) (fun K hK => ?_); go_simp
        refine (Csec.out _ (HMx.out.drew)).mono ?_
        rintro e w9 ⟨rfl, m9⟩
        have HM9 : Hid (More w3 w9) := (More.refl _).drew.trans m9
        have HU9 : U w9 := (HU.out _).2 HM9.out
        clear m9
        cases sc with
        | true =>
         have Hck : Hid (J0c p L = (5, (k : Int))) := by
          show _ = _
          have hf : J0s p k s = 5 := by unfold J0s; rw [Hno.out, Hsc2.out]; rfl
          rw [Hn2.out, hf]; rfl
         go_simp
         refine hK _ _ HU9 ?_; clear hK K
         refine J04 ?_
         clear g0 g1 g2 g3 g4 g5 g6 g7 hneU HU0 HU9
         have t0 := (HRES.out.more ((HMm.out.trans HMx.out).trans HM9.out)).cell (j := 0) (v := .int .i64 0) rfl
         have t1 := (HRES.out.more ((HMm.out.trans HMx.out).trans HM9.out)).cell (j := 1) (v := .int .i64 0) rfl
         have u0 := (HRES.out.more ((HMm.out.trans HMx.out).trans HM9.out)).frozen 0
         have u1 := (HRES.out.more ((HMm.out.trans HMx.out).trans HM9.out)).frozen 1
         go_wp2
         refine bodyPost_ret (v := flt 5 k) (by simp [flt, results, Try.results14, go_sem, *]) rfl ?_
         have hE := HP.out L HV2.out.2 _ (((HM0.out.trans ((HMm.out.trans HMx.out).trans HM9.out)).setCell (a := ⟨w.heap.size + 1, 0, none⟩) (by dsimp only; omega) (.int .i64 5)).setCell (a := ⟨w.heap.size + 1, 1, none⟩) (by dsimp only; omega) (.int .i64 k))
         rw [Hck.out] at hE
         exact hE
        | false =>
         have Hck : Hid (J0c p L = scanK p L g (k + 1)) := by
          show _ = _
          have hf : J0s p k s = 0 := by unfold J0s; rw [Hno.out, Hsc2.out]; rfl
          rw [Hn2.out, if_pos hf]
         go_simp
         refine hK _ _ HU9 ?_; clear hK K
         refine J04 ?_
         clear g0 g1 g2 g3 g4 g5 g6 g7 hneU HU0 HU9
         go_wp2
         go_roundg g
         case measure => omega
         case rel => exact ⟨k + 1, by omega, by first | rfl | simp, (HMw.out.trans HMx.out).trans HM9.out, Hck.out⟩
end
section
open Go.RowKit
set_option maxHeartbeats 1000000 in
theorem Jez (u v : Value) (l : List Se) (w : World) (hu : SeenAt w u l) (hv : SeenAt w v l) :
  Calls Try.prog 46 #[u, v] w fun e w' => e = .returned (.bool true) ∧ More w w' := by
 obtain ⟨a, b, o, c, rfl, ha, h1, hb⟩ := hu
 obtain ⟨a', b', o', c', rfl, ha', h1', _⟩ := hv
 obtain ⟨n, hn⟩ : ∃ n, l.length = n := ⟨_, rfl⟩
 have H : Hid ((0 < n → a = some ⟨b, o, none⟩) ∧ SeesAt w b o l ∧ (0 < n → a' = some ⟨b', o', none⟩) ∧ SeesAt w b' o' l ∧ n < 4611686018427387904 ∧ l.length = n) := by
  subst hn; exact ⟨ha, h1, ha', h1', hb, rfl⟩
 rw [hn]
 clear ha h1 ha' h1' hb hn
 go_enter Try.func46, Try.ntmps46
 go_wp2
 go_loopg [5] n (fun q i wr => ∃ k : Nat, k + q = n ∧ i = .int .i64 k ∧ More w wr)
 case atStart => exact ⟨0, by omega, rfl, More.refl _⟩
 case round =>
  obtain ⟨k, hkg, rfl, m⟩ := hrel
  have Hm : Hid (More w wr) := m
  clear m
  cases gk with
  | zero =>
   obtain rfl : k = n := by omega
   go_wp2
   go_ret
   exact ⟨rfl, Hm.out⟩
  | succ q =>
   have hk : k < n := by omega
   have hk' : (k : Int) < (n : Int) := by omega
   have hk0 : (0 : Int) ≤ (k : Int) := by omega
   obtain rfl := H.out.1 (by omega)
   obtain rfl := H.out.2.2.1 (by omega)
   obtain ⟨s, Hs⟩ : ∃ s, Hid (l[k]? = some s) := ⟨_, List.getElem?_eq_getElem (by have := H.out.2.2.2.2.2; omega)⟩
   have q1 := (H.out.2.1.more Hm.out) k s Hs.out
   have q2 := (H.out.2.2.2.1.more Hm.out) k s Hs.out
   obtain ⟨x, y, z⟩ := s
   obtain ⟨S, HS⟩ : ∃ S : World → Prop, Hid (∀ w', S w' ↔ More wr w') := ⟨fun w' => More wr w', fun _ => Iff.rfl⟩
   have k0 : ∀ i : { w' // S w' }, i.val.cell? ⟨b, o + k * 3, none⟩ = some (.int .i64 x) := fun i => ((HS.out _).1 i.property).cell q1.1
   have k1 : ∀ i : { w' // S w' }, i.val.cell? ⟨b, o + k * 3 + 1, none⟩ = some (.int .i64 y) := fun i => ((HS.out _).1 i.property).cell q1.2.1
   have k2 : ∀ i : { w' // S w' }, i.val.cell? ⟨b, o + k * 3 + 2, none⟩ = some (.int .i64 z) := fun i => ((HS.out _).1 i.property).cell q1.2.2
   have d0 : ∀ i : { w' // S w' }, i.val.cell? ⟨b', o' + k * 3, none⟩ = some (.int .i64 x) := fun i => ((HS.out _).1 i.property).cell q2.1
   have d1 : ∀ i : { w' // S w' }, i.val.cell? ⟨b', o' + k * 3 + 1, none⟩ = some (.int .i64 y) := fun i => ((HS.out _).1 i.property).cell q2.2.1
   have d2 : ∀ i : { w' // S w' }, i.val.cell? ⟨b', o' + k * 3 + 2, none⟩ = some (.int .i64 z) := fun i => ((HS.out _).1 i.property).cell q2.2.2
   have hne : Nonempty { w' // S w' } := ⟨⟨wr, (HS.out _).2 (More.refl _)⟩⟩
   clear q1 q2
   go_wp2_with (fail)
   refine J01 (S := S) [(0, true), (1, true), (2, true), (3, true), (4, true), (5, true), (6, true), (7, true), (8, true)] (by kernel_rfl) (by kernel_rfl) (by kernel_rfl) ((HS.out _).2 (More.refl _).drew) ?_
   iterate 9 (refine J00 rfl (by kernel_rfl) (fun K hK => ?_); go_simp; refine hK _ _ ?_; clear hK K)
   refine J04 ?_
   clear k0 k1 k2 d0 d1 d2 hne
   go_wp2
   go_roundg q
   case measure => omega
   case rel => exact ⟨k + 1, by omega, by first | rfl | (simp; unfold wrap64; have := H.out.2.2.2.2.1; omega), Hm.out.drew⟩
end
section
open Go.RowKit
set_option linter.unusedSimpArgs false
set_option linter.unusedVariables false
set_option maxRecDepth 8000
structure Prg.Eq8 (p q : Prg) : Prop where
 rl : p.rl = q.rl
 reg : ∀ i, i < p.rl → p.log i = q.log i ∧ p.sec i = q.sec i
 cl : p.cl = q.cl
 ins : ∀ i, i < p.cl → p.ins i = q.ins i

set_option maxHeartbeats 2000000 in
theorem Jbo (p q : Prg) (l l' : Loc) (w : World) (hp : PIn w p l) (hq : PIn w q l') (h : p.Eq8 q) (hrl : p.rl < 4611686018427387904) (hcl : p.cl < 4611686018427387904) :
  Calls Try.prog 22 #[.agg #[.slice l.ra p.rl l.rc, .slice l.ca p.cl l.cc], .agg #[.slice l'.ra q.rl l'.rc, .slice l'.ca q.cl l'.cc]] w fun e w' => e = .returned (.bool true) ∧ More w w' := by
 have H : Hid (PIn w p l ∧ PIn w q l' ∧ p.Eq8 q) := ⟨hp, hq, h⟩
 rw [← h.rl, ← h.cl]
 clear hp hq h
 obtain ⟨rl, Hrl⟩ : ∃ x, Hid (p.rl = x) := ⟨_, rfl⟩
 obtain ⟨cl, Hcl⟩ : ∃ x, Hid (p.cl = x) := ⟨_, rfl⟩
 obtain ⟨ra, rb, ro, rc, ca, cb, co, cc⟩ := l
 obtain ⟨ra', rb', ro', rc', ca', cb', co', cc'⟩ := l'
 dsimp only
 rw [Hrl.out] at hrl
 rw [Hcl.out] at hcl
 rw [Hrl.out, Hcl.out]
 obtain ⟨W, HW⟩ : ∃ W : World, Hid (W = (w.alloc (.cells #[.slice ra rl rc, .slice ca cl cc] 30)).alloc (.cells #[.slice ra' rl rc', .slice ca' cl cc'] 30)) := ⟨_, rfl⟩
 have HM : Hid (More w W) := by rw [HW.out]; exact ((More.refl _).alloc _ _).alloc _ _
 have b0 : W.cell? ⟨w.heap.size, 0, none⟩ = some (.slice ra rl rc) := by rw [HW.out]; go_simp
 have b1 : W.cell? ⟨w.heap.size, 1, none⟩ = some (.slice ca cl cc) := by rw [HW.out]; go_simp
 have b2 : W.cell? ⟨w.heap.size + 1, 0, none⟩ = some (.slice ra' rl rc') := by rw [HW.out]; go_simp
 have b3 : W.cell? ⟨w.heap.size + 1, 1, none⟩ = some (.slice ca' cl cc') := by rw [HW.out]; go_simp
 have HB : Hid (∀ w', More W w' → w'.cell? ⟨w.heap.size, 0, none⟩ = some (.slice ra rl rc) ∧ w'.cell? ⟨w.heap.size, 1, none⟩ = some (.slice ca cl cc) ∧ w'.cell? ⟨w.heap.size + 1, 0, none⟩ = some (.slice ra' rl rc') ∧ w'.cell? ⟨w.heap.size + 1, 1, none⟩ = some (.slice ca' cl cc')) := fun w' m => ⟨m.cell b0, m.cell b1, m.cell b2, m.cell b3⟩
 go_enter Try.func22, Try.ntmps22
 go_wp2_with (fail)
 rw [← HW.out]
 clear b0 b1 b2 b3
 go_loopg [5] rl (fun g iv wr => ∃ k : Nat, k + g = rl ∧ iv = .int .i64 k ∧ Hid (More W wr))
 case atStart => exact ⟨0, by omega, rfl, More.refl _⟩
 case round =>
  obtain ⟨k, hkg, rfl, Hr⟩ := hrel
  obtain ⟨b0, b1, b2, b3⟩ := HB.out wr Hr.out
  cases gk with
  | zero =>
   obtain rfl : k = rl := by omega
   go_wp2_with (fail)
   go_loopg [6] cl (fun g iv wr => ∃ k : Nat, k + g = cl ∧ iv = .int .i64 k ∧ Hid (More W wr))
   case atStart => exact ⟨0, by omega, rfl, Hr.out⟩
   case round =>
    clear b0 b1 b2 b3
    obtain ⟨j, hjg, rfl, Hs⟩ := hrel
    obtain ⟨b0, b1, b2, b3⟩ := HB.out wr Hs.out
    cases gk with
    | zero =>
     obtain rfl : j = cl := by omega
     go_wp2
     go_ret
     exact ⟨rfl, HM.out.trans Hs.out⟩
    | succ g =>
     have hj : j < cl := by omega
     have hji : (j : Int) < cl := by omega
     have hj63 : wrap64 ((j : Int) + 1) = (j : Int) + 1 := by unfold wrap64; omega
     have hjp : j < p.cl := by rw [Hcl.out]; exact hj
     have q1 := (H.out.1.code.more (HM.out.trans Hs.out)) j hjp
     have q2 := (H.out.2.1.code.more (HM.out.trans Hs.out)) j (by rw [← H.out.2.2.cl]; exact hjp)
     rw [← H.out.2.2.ins j hjp] at q2
     obtain rfl : ca = some ⟨cb, co, none⟩ := H.out.1.hc (by omega)
     obtain rfl : ca' = some ⟨cb', co', none⟩ := H.out.2.1.hc (by rw [← H.out.2.2.cl]; omega)
     dsimp only at q1 q2
     obtain ⟨i, hi⟩ : ∃ i, p.ins j = i := ⟨_, rfl⟩
     rw [hi] at q1 q2
     obtain ⟨op, a, b, c, n⟩ := i
     dsimp only at q1 q2
     obtain ⟨x0, x1, x2, x3, x4⟩ := q1
     obtain ⟨y0, y1, y2, y3, y4⟩ := q2
     clear hi hjp
     obtain ⟨S, HS⟩ : ∃ S : World → Prop, Hid (∀ w', S w' ↔ More wr w') := ⟨_, fun _ => Iff.rfl⟩
     have HS0 : S wr.drew := (HS.out _).2 (More.refl _).drew
     have hne : Nonempty { w' // S w' } := ⟨⟨_, HS0⟩⟩
     have k0 : ∀ i : { w' // S w' }, i.val.cell? ⟨w.heap.size, 1, none⟩ = some (.slice (some ⟨cb, co, none⟩) cl cc) := fun i => ((HS.out _).1 i.property).cell b1
     have k1 : ∀ i : { w' // S w' }, i.val.cell? ⟨w.heap.size + 1, 1, none⟩ = some (.slice (some ⟨cb', co', none⟩) cl cc') := fun i => ((HS.out _).1 i.property).cell b3
     have k2 : ∀ i : { w' // S w' }, i.val.cell? ⟨cb, co + j * 5, none⟩ = some (.int .i64 op) := fun i => ((HS.out _).1 i.property).cell x0
     have k3 : ∀ i : { w' // S w' }, i.val.cell? ⟨cb', co' + j * 5, none⟩ = some (.int .i64 op) := fun i => ((HS.out _).1 i.property).cell y0
     have k4 : ∀ i : { w' // S w' }, i.val.cell? ⟨cb, co + j * 5 + 1, none⟩ = some (.int .i64 a) := fun i => ((HS.out _).1 i.property).cell x1
     have k5 : ∀ i : { w' // S w' }, i.val.cell? ⟨cb', co' + j * 5 + 1, none⟩ = some (.int .i64 a) := fun i => ((HS.out _).1 i.property).cell y1
     have k6 : ∀ i : { w' // S w' }, i.val.cell? ⟨cb, co + j * 5 + 2, none⟩ = some (.int .i64 b) := fun i => ((HS.out _).1 i.property).cell x2
     have k7 : ∀ i : { w' // S w' }, i.val.cell? ⟨cb', co' + j * 5 + 2, none⟩ = some (.int .i64 b) := fun i => ((HS.out _).1 i.property).cell y2
     have k8 : ∀ i : { w' // S w' }, i.val.cell? ⟨cb, co + j * 5 + 3, none⟩ = some (.int .i64 c) := fun i => ((HS.out _).1 i.property).cell x3
     have k9 : ∀ i : { w' // S w' }, i.val.cell? ⟨cb', co' + j * 5 + 3, none⟩ = some (.int .i64 c) := fun i => ((HS.out _).1 i.property).cell y3
     have k10 : ∀ i : { w' // S w' }, i.val.cell? ⟨cb, co + j * 5 + 4, none⟩ = some (.int .i64 n) := fun i => ((HS.out _).1 i.property).cell x4
     have k11 : ∀ i : { w' // S w' }, i.val.cell? ⟨cb', co' + j * 5 + 4, none⟩ = some (.int .i64 n) := fun i => ((HS.out _).1 i.property).cell y4
     go_wp2_with (fail)
     refine J01 (S := S) [(0, true), (1, true), (2, true), (3, true), (4, true), (5, true), (6, true), (7, true), (8, true), (9, true), (10, true)] (by kernel_rfl) (by kernel_rfl) (by kernel_rfl) HS0 ?_
     iterate 11 (refine J00 rfl (by kernel_rfl) (fun K hK => ?_); go_simp; refine hK _ _ ?_; clear hK K)
     refine J04 ?_
     clear hne HS0 k0 k1 k2 k3 k4 k5 k6 k7 k8 k9 k10 k11
     go_wp2
     go_roundg g
     case measure => omega
     case rel => exact ⟨j + 1, by omega, by first | rfl | simp, Hs.out.trans (More.refl _).drew⟩
  | succ g =>
   have hk : k < rl := by omega
   have hki : (k : Int) < rl := by omega
   have hk63 : wrap64 ((k : Int) + 1) = (k : Int) + 1 := by unfold wrap64; omega
   have hkp : k < p.rl := by rw [Hrl.out]; exact hk
   have q1 := (H.out.1.regs.more (HM.out.trans Hr.out)) k hkp
   have q2 := (H.out.2.1.regs.more (HM.out.trans Hr.out)) k (by rw [← H.out.2.2.rl]; exact hkp)
   rw [← (H.out.2.2.reg k hkp).1, ← (H.out.2.2.reg k hkp).2] at q2
   obtain rfl : ra = some ⟨rb, ro, none⟩ := H.out.1.hr (by omega)
   obtain rfl : ra' = some ⟨rb', ro', none⟩ := H.out.2.1.hr (by rw [← H.out.2.2.rl]; omega)
   dsimp only at q1 q2
   obtain ⟨lg, hlg⟩ : ∃ i, p.log k = i := ⟨_, rfl⟩
   obtain ⟨sc, hsc⟩ : ∃ i, p.sec k = i := ⟨_, rfl⟩
   rw [hlg, hsc] at q1 q2
   obtain ⟨x0, x1⟩ := q1
   obtain ⟨y0, y1⟩ := q2
   clear hlg hsc hkp
   obtain ⟨S, HS⟩ : ∃ S : World → Prop, Hid (∀ w', S w' ↔ More wr w') := ⟨_, fun _ => Iff.rfl⟩
   have HS0 : S wr.drew := (HS.out _).2 (More.refl _).drew
   have hne : Nonempty { w' // S w' } := ⟨⟨_, HS0⟩⟩
   have k0 : ∀ i : { w' // S w' }, i.val.cell? ⟨w.heap.size, 0, none⟩ = some (.slice (some ⟨rb, ro, none⟩) rl rc) := fun i => ((HS.out _).1 i.property).cell b0
   have k1 : ∀ i : { w' // S w' }, i.val.cell? ⟨w.heap.size + 1, 0, none⟩ = some (.slice (some ⟨rb', ro', none⟩) rl rc') := fun i => ((HS.out _).1 i.property).cell b2
   have k2 : ∀ i : { w' // S w' }, i.val.cell? ⟨rb, ro + k * 2, none⟩ = some (.int .i64 lg) := fun i => ((HS.out _).1 i.property).cell x0
   have k3 : ∀ i : { w' // S w' }, i.val.cell? ⟨rb, ro + k * 2 + 1, none⟩ = some (.bool sc) := fun i => ((HS.out _).1 i.property).cell x1
   have k4 : ∀ i : { w' // S w' }, i.val.cell? ⟨rb', ro' + k * 2, none⟩ = some (.int .i64 lg) := fun i => ((HS.out _).1 i.property).cell y0
   have k5 : ∀ i : { w' // S w' }, i.val.cell? ⟨rb', ro' + k * 2 + 1, none⟩ = some (.bool sc) := fun i => ((HS.out _).1 i.property).cell y1
   go_wp2_with (fail)
   refine J01 (S := S) [(0, true), (1, true), (2, true), (3, true), (4, true), (5, true), (6, true), (7, true), (8, true), (9, true), (10, true)] (by kernel_rfl) (by kernel_rfl) (by kernel_rfl) HS0 ?_
   iterate 11 (refine J00 rfl (by kernel_rfl) (fun K hK => ?_); go_simp; refine hK _ _ ?_; clear hK K)
   refine J04 ?_
   clear hne HS0 k0 k1 k2 k3 k4 k5
   go_wp2
   go_roundg g
   case measure => omega
   case rel => exact ⟨k + 1, by omega, by first | rfl | simp, Hr.out.trans (More.refl _).drew⟩

theorem J88 (p q : Prg) (l l' : Loc) (w : World) (hp : PIn w p l) (hq : PIn w q l') (hrl : p.rl = q.rl) (hreg : ∀ i, i < p.rl → p.log i = q.log i ∧ p.sec i = q.sec i) (hb : p.rl < 4611686018427387904) :
  Calls Try.prog 24 #[.agg #[.slice l.ra p.rl l.rc, .slice l.ca p.cl l.cc], .agg #[.slice l'.ra q.rl l'.rc, .slice l'.ca q.cl l'.cc]] w fun e w' => e = .returned (.bool true) ∧ More w w' := by
 have C : Hid (∀ w1 : World, More w w1 → Calls Try.prog 22 #[.agg #[.slice l.ra p.rl l.rc, .slice none 0 0], .agg #[.slice l'.ra q.rl l'.rc, .slice none 0 0]] w1 fun e w' => e = .returned (.bool true) ∧ More w1 w') := fun w1 m1 =>
  Jbo ⟨p.rl, p.log, p.sec, 0, p.ins⟩ ⟨q.rl, q.log, q.sec, 0, q.ins⟩ ⟨l.ra, l.rb, l.ro, l.rc, none, 0, 0, 0⟩ ⟨l'.ra, l'.rb, l'.ro, l'.rc, none, 0, 0, 0⟩ w1
   ⟨hp.hr, fun h => absurd h (Nat.lt_irrefl _), hp.regs.more m1, fun i hi => absurd hi (Nat.not_lt_zero _)⟩ ⟨hq.hr, fun h => absurd h (Nat.lt_irrefl _), hq.regs.more m1, fun i hi => absurd hi (Nat.not_lt_zero _)⟩
   ⟨hrl, hreg, rfl, fun i hi => absurd hi (Nat.not_lt_zero _)⟩ hb (by simp)
 clear hp hq hrl hreg hb
 obtain ⟨a1, h1⟩ : ∃ x, Value.slice l.ra p.rl l.rc = x := ⟨_, rfl⟩
 obtain ⟨a2, n2, c2, h2⟩ : ∃ a n c, Value.slice l.ca p.cl l.cc = .slice a n c := ⟨_, _, _, rfl⟩
 obtain ⟨a4, n4, c4, h4⟩ : ∃ a n c, Value.slice l'.ca q.cl l'.cc = .slice a n c := ⟨_, _, _, rfl⟩
 obtain ⟨a5, n5, c5, h5⟩ : ∃ a n c, Value.slice l.ra p.rl l.rc = .slice a n c := ⟨_, _, _, rfl⟩
 obtain ⟨a6, n6, c6, h6⟩ : ∃ a n c, Value.slice l'.ra q.rl l'.rc = .slice a n c := ⟨_, _, _, rfl⟩
 rw [h5, h6] at C
 rw [h5, h6, h2, h4]
 clear h1 h2 h4 h5 h6
 go_enter Try.func24, Try.ntmps24
 go_wp2_with (fail)
 refine (C.out _ ((((More.refl _).alloc _ _).alloc _ _).alloc _ _ |>.alloc _ _)).mono ?_
 rintro e w1 ⟨rfl, m1⟩
 have Hm1 : Hid (More w w1) := ((((More.refl _).alloc _ _).alloc _ _).alloc _ _ |>.alloc _ _).trans m1
 clear m1
 go_wp2
 go_ret
 exact ⟨rfl, Hm1.out⟩
theorem J9h (p : Prg) (l : Loc) (w : World) (hp : PIn w p l) (hf : p.Fit) :
  Calls Try.prog 14 #[.agg #[.slice l.ra p.rl l.rc, .slice l.ca p.cl l.cc]] w fun e w' => ∃ f : Int × Int, Told p f ∧ e = .returned (.agg #[.int .i64 f.1, .int .i64 f.2]) ∧ More w w' := by
 by_cases hok : p.Ok 200 8
 ·refine (Jd3 p l w hp hok (fun i hi => (hf.ins i hi).2.2.2.2) (fun w1 m1 => Jgd p l w1 (hp.more m1) hok)).mono ?_
  rintro e w' ⟨l', h1, rfl, m⟩
  exact ⟨_, .inr ⟨hok, l', h1, rfl⟩, rfl, m⟩
 ·refine (J9c _ _ ⟨_, _, _, rfl⟩ ⟨_, _, _, rfl⟩ w (fun w2 m2 => ?_)).mono (fun e w' ⟨h1, h2⟩ => ⟨(2, 0), .inl ⟨hok, rfl⟩, h1, h2⟩)
  refine (Jbs p l _ (hp.more m2)).mono ?_
  rintro e w' ⟨r, rfl, hr, m⟩
  cases r with
  | false => exact ⟨rfl, m⟩
  | true => exact absurd (hr.1 rfl) hok
theorem Jdu (p : Prg) (l : Loc) (w : World) (hp : PIn w p l) (hok : p.Ok 8000 10) :
  Calls Try.prog 23 #[.agg #[.slice l.ra p.rl l.rc, .slice l.ca p.cl l.cc]] w fun e w' => e = .returned (.bool true) ∧ More w w' := by
 refine (Jg3 p l _ hp).mono ?_
 rintro e w' ⟨r, rfl, hr, m⟩
 cases r with
 | true => exact ⟨rfl, m⟩
 | false => exact absurd (hr.2 hok) (by simp)

def Makes (F : Nat) (p : Prg) (l : Loc) (Q : Prg → Prop) (w : World) : Prop :=
 Calls Try.prog F #[.agg #[.slice l.ra p.rl l.rc, .slice l.ca p.cl l.cc]] w fun e w' => ∃ (h : Prg) (lh : Loc), Q h ∧ PIn w' h lh ∧ e = .returned (.tuple #[.agg #[.slice lh.ra h.rl lh.rc, .slice lh.ca h.cl lh.cc], .agg #[.int .i64 0, .int .i64 0]]) ∧ More w w'
structure Like8 (p h : Prg) : Prop where
 ok : h.Ok 8000 10
 fit : h.Fit
 rl : p.rl = h.rl
 reg : ∀ i, i < p.rl → p.log i = h.log i ∧ p.sec i = h.sec i
theorem Like8.fits {p h : Prg} (k : Like8 p h) {ml : Nat} {len : Nat → Nat} (hf : J1m p.rl p.log ml len) : J1m h.rl h.log ml len :=
 ⟨k.ok.1, hf.2.1.trans k.rl, fun i hi => by rw [hf.2.2 i (by rw [k.rl]; exact hi), (k.reg i (by rw [k.rl]; exact hi)).1]⟩
end
section
open Go.RowKit
set_option linter.unusedVariables false
def EqS (k : KS) (r t : Nat → Int) : Prop := ∀ j, j < 8 → (k j).s = false → r j = t j
theorem EqS.mono {k u : KS} (h : leS k u) {r t : Nat → Int} (q : EqS k r t) : EqS u r t := fun j hj hs => q j hj (by
 cases e : (k j).s
 ·rfl
 ·rw [(h j hj).2 e] at hs; cases hs)
theorem EqS.set {k : KS} {r t : Nat → Int} (h : EqS k r t) (a : Int) {v : Kn} {x y : Int} (q : v.s = false → x = y) : EqS (setK k a v) (setR r a x) (setR t a y) := fun j hj hs => by
 unfold setK at hs
 unfold setR
 by_cases e : j = a.toNat
 ·rw [if_pos e] at hs; rw [if_pos e, if_pos e]; exact q hs
 ·rw [if_neg e] at hs; rw [if_neg e, if_neg e]; exact h j hj hs
theorem EqS.know {k : KS} {r t : Nat → Int} (h : EqS k r t) (a : Int) {v : Kn} (q : v.s = false → r a.toNat = t a.toNat) : EqS (setK k a v) r t := fun j hj hs => by
 unfold setK at hs
 by_cases e : j = a.toNat
 ·rw [if_pos e] at hs; rw [e]; exact q hs
 ·rw [if_neg e] at hs; exact h j hj hs

def PubI (p : Prg) (x y : Mem) : Prop := ∀ c, c < p.rl → p.sec c = false → ∀ i, i < x.len c → x.wd c i = y.wd c i

section
variable {p : Prg} {m m' : Mem} {l : KV} {s t : St}

theorem Jic (k : Kn) (n : Int) : (Kn.index k n).s = k.s := by unfold Kn.index; split <;> simp [Kn.op, Kn.of]

theorem Jhd {i : Ins} {k : KS} {r t : Nat → Int} (hi : InsOk p.rl p.log p.cl 8 i) (h3 : ¬ i.op = 3) (h4 : ¬ i.op = 4) (h5 : ¬ i.op = 5) (h6 : ¬ i.op = 6) (h7 : ¬ i.op = 7) (h8 : ¬ i.op = 8) (h9 : ¬ i.op = 9)
  (hs : J0g p i k = false) (h : EqS k r t) : EqS (nextK p i k) (regsI r i).1 (regsI t i).1 ∧ (regsI r i).2 = (regsI t i).2 := by
 have hg := J20 hi
 unfold nextK regsI
 by_cases q1 : i.op = 1
 ·rw [if_pos q1, if_pos q1, if_pos q1]; exact ⟨h.set _ (fun _ => rfl), rfl⟩
 rw [if_neg q1, if_neg q1, if_neg q1]
 by_cases q2 : i.op = 2
 ·rw [if_pos q2, if_pos q2, if_pos q2]; exact ⟨h.set _ (fun q => h _ (hg.2.1 (by omega)) q), rfl⟩
 rw [if_neg q2, if_neg q2, if_neg q2]
 by_cases q10 : i.op = 10
 ·rw [if_pos q10, if_pos q10, if_pos q10]
  exact ⟨h.set _ (fun q => by rw [Jic] at q; rw [h _ (hg.2.1 (by omega)) q]), rfl⟩
 rw [if_neg q10, if_neg q10, if_neg q10, if_neg (by omega)]
 by_cases q11 : i.op = 11
 ·rw [if_pos q11, if_pos q11, if_pos q11]
  have ha := hg.1 (by omega)
  refine ⟨?_, rfl⟩
  dsimp only
  cases es : (k i.a.toNat).s
  ·have ee := h _ ha es
   rw [← ee]
   split
   ·exact h.set _ (fun _ => rfl)
   ·exact h.know _ (fun _ => ee)
  ·intro j hj hjs
   unfold setK at hjs
   by_cases e : j = i.a.toNat
   ·rw [if_pos e] at hjs; unfold Kn.less at hjs; dsimp only at hjs; rw [es] at hjs; cases hjs
   ·rw [if_neg e] at hjs
    have := h j hj hjs
    have hs1 : ∀ (r : Nat → Int) (c : Prop) [Decidable c], (if c then setR r i.a 0 else r) j = r j := fun r c _ => by
     split
     ·unfold setR; rw [if_neg e]
     ·rfl
    rw [hs1, hs1]; exact this
 rw [if_neg q11, if_neg q11, if_neg q11]
 by_cases q12 : i.op = 12
 ·rw [if_pos (.inr (.inr q12)), if_pos q12, if_pos q12]; exact ⟨h, rfl⟩
 rw [if_neg (by omega), if_neg q12, if_neg q12]
 have hb := hg.2.1 (by omega); have hc := hg.2.2.1 (by omega)
 have key : (Kn.op (i.op - 20) (k i.b.toNat) (k i.c.toNat)).s = false → r i.b.toNat = t i.b.toNat ∧ r i.c.toNat = t i.c.toNat := fun q => by
  have := Bool.or_eq_false_iff.1 q
  exact ⟨h _ hb this.1, h _ hc this.2⟩
 refine ⟨h.set _ (fun q => by rw [(key q).1, (key q).2]), ?_⟩
 dsimp only
 by_cases q : i.op = 29 ∨ i.op = 30
 ·rw [if_pos q, if_pos q]
  unfold J0g at hs
  rw [if_neg h3, if_neg h4, if_neg h6, if_neg h8, if_pos q] at hs
  rw [(key hs).1, (key hs).2]
 ·rw [if_neg q, if_neg q]

end
end
section
open Go.RowKit
set_option linter.unusedSimpArgs false
set_option linter.unusedVariables false
set_option maxRecDepth 8000
set_option maxHeartbeats 2000000 in
theorem J7p (p : Prg) (lo : Loc) (x y : Mem) (l l' : MLoc) (w : World) (hp : PIn w p lo) (hx : MIn w x l) (hy : MIn w y l') (hlx : x.ml = p.rl) (hly : y.ml = p.rl) (hrl : p.rl ≤ 6) (hlen : ∀ c, c < p.rl → x.len c = y.len c ∧ x.len c ≤ 64) (hcv : ∃ a n c, (Value.slice lo.ca p.cl lo.cc) = .slice a n c) :
  Calls Try.prog 19 #[.agg #[.slice lo.ra p.rl lo.rc, .slice lo.ca p.cl lo.cc], .slice l.ma x.ml l.mc, .slice l'.ma y.ml l'.mc] w (Says (PubI p x y) w) := by
 obtain ⟨ma, mb, mo, mc, A, C, gb, go⟩ := l
 obtain ⟨ma', mb', mo', mc', A', C', gb', go'⟩ := l'
 obtain ⟨ra, rb, ro, rc, ca, cb, co, cc⟩ := lo
 have H : Hid (MIn w x ⟨ma, mb, mo, mc, A, C, gb, go⟩ ∧ MIn w y ⟨ma', mb', mo', mc', A', C', gb', go'⟩ ∧ ∀ c, c < p.rl → x.len c = y.len c ∧ x.len c ≤ 64) := ⟨hx, hy, hlen⟩
 have HPn : Hid (PIn w p ⟨ra, rb, ro, rc, ca, cb, co, cc⟩) := hp
 obtain ⟨P, HP⟩ : ∃ P : Prop, Hid (P ↔ PubI p x y) := ⟨PubI p x y, (Iff.rfl : _ ↔ _)⟩
 rw [← propext HP.out]
 clear hx hy hlen hp hcv
 obtain ⟨n, hn⟩ : ∃ n, p.rl = n := ⟨_, rfl⟩
 dsimp only
 rw [hlx, hly, hn]
 rw [hn] at hrl
 have Hn : Hid (p.rl = n ∧ x.ml = n ∧ y.ml = n) := ⟨hn, hlx.trans hn, hly.trans hn⟩
 clear hn hlx hly
 have hri : (n : Int) ≤ 6 := by omega
 obtain ⟨W, HW⟩ : ∃ W : World, Hid (W = w.alloc (.cells #[.slice ra n rc, .slice ca p.cl cc] 30)) := ⟨_, rfl⟩
 have HmW : Hid (More w W) := HW.out ▸ (More.refl _).alloc _ _
 have HB : Hid (Blk W w.heap.size #[.slice ra n rc, .slice ca p.cl cc] 30) := HW.out ▸ Blk.last _ _ _
 go_enter Try.func19, Try.ntmps19
 go_wp2_with (fail)
 rw [← HW.out]
 go_loopg [7] n (fun q i wr => ∃ k : Nat, k + q = n ∧ i = .int .i64 k ∧ Hid (More W wr ∧ ∀ c, c < k → p.sec c = false → ∀ i, i < x.len c → x.wd c i = y.wd c i))
 case atStart => exact ⟨0, by omega, rfl, More.refl _, fun c hc => absurd hc (Nat.not_lt_zero _)⟩
 case round =>
  obtain ⟨k, hkg, rfl, HR⟩ := hrel
  have b0 : wr.cell? ⟨w.heap.size, 0, none⟩ = some (.slice ra n rc) := (HB.out.more HR.out.1).cell rfl
  cases gk with
  | zero =>
   obtain rfl : k = n := by omega
   go_wp2
   go_ret
   exact Says.yes (HP.out.2 (fun c hc => HR.out.2 c (by rw [← Hn.out.1]; exact hc))) (HmW.out.trans HR.out.1)
  | succ q =>
   have hk : k < n := by omega
   have hk' : (k : Int) < (n : Int) := by omega
   have Hk : Hid (k < x.ml ∧ k < y.ml ∧ k < p.rl) := ⟨by rw [Hn.out.2.1]; exact hk, by rw [Hn.out.2.2]; exact hk, by rw [Hn.out.1]; exact hk⟩
   obtain rfl : ra = some ⟨rb, ro, none⟩ := HPn.out.hr (by have := Hk.out; omega)
   have r0 := (HmW.out.trans HR.out.1).cell (HPn.out.regs k Hk.out.2.2).2
   dsimp only at r0
   cases hs : p.sec k with
   | true =>
    rw [hs] at r0
    have Hs : Hid (p.sec k = true) := hs
    clear hs
    go_wp2
    go_roundg q
    case measure => omega
    case rel =>
     refine ⟨k + 1, by omega, by first | rfl | simp, HR.out.1, fun c hc hsc => ?_⟩
     by_cases e : c = k
     ·subst e; rw [Hs.out] at hsc; cases hsc
     ·exact HR.out.2 c (by omega) hsc
   | false =>
    rw [hs] at r0
    have Hse : Hid (p.sec k = false) := hs
    clear hs
    obtain rfl : ma = some ⟨mb, mo, none⟩ := H.out.1.hm (by have := Hk.out.1; omega)
    obtain rfl : ma' = some ⟨mb', mo', none⟩ := H.out.2.1.hm (by have := Hk.out.2.1; omega)
    have q1 := H.out.1.lists k Hk.out.1
    have q2 := H.out.2.1.lists k Hk.out.2.1
    dsimp only at q1 q2
    rw [← (H.out.2.2 k Hk.out.2.2).1] at q2
    obtain ⟨r, hr⟩ : ∃ r, x.len k = r := ⟨_, rfl⟩
    rw [hr] at q1 q2
    have hr64 : r ≤ 64 := by rw [← hr]; exact (H.out.2.2 k Hk.out.2.2).2
    have hri2 : (r : Int) ≤ 64 := by omega
    have HRr : Hid (x.len k = r ∧ y.len k = r) := ⟨hr, by rw [← (H.out.2.2 k Hk.out.2.2).1]; exact hr⟩
    clear hr
    have Ha : Hid (0 < r → A k = some ⟨gb k, go k, none⟩) := fun h => H.out.1.hg k Hk.out.1 (by rw [HRr.out.1]; exact h)
    have Ha' : Hid (0 < r → A' k = some ⟨gb' k, go' k, none⟩) := fun h => H.out.2.1.hg k Hk.out.2.1 (by rw [HRr.out.2]; exact h)
    obtain ⟨Ak, hA⟩ : ∃ z, A k = z := ⟨_, rfl⟩
    obtain ⟨Ak', hA'⟩ : ∃ z, A' k = z := ⟨_, rfl⟩
    rw [hA] at q1 Ha
    rw [hA'] at q2 Ha'
    clear hA hA'
    have Hq : Hid (w.cell? ⟨mb, mo + k, none⟩ = some (.slice Ak r (C k)) ∧ w.cell? ⟨mb', mo' + k, none⟩ = some (.slice Ak' r (C' k))) := ⟨q1, q2⟩
    clear q1 q2
    obtain ⟨wm, rfl⟩ : ∃ wm, wm = wr := ⟨wr, rfl⟩
    go_wp2_with (fail)
    go_loopg [8] r (fun g i wq => ∃ j : Nat, j + g = r ∧ i = .int .i64 j ∧ Hid (More wm wq ∧ ∀ i, i < j → x.wd k i = y.wd k i))
    case atStart => exact ⟨0, by omega, rfl, More.refl _, fun i hi => absurd hi (Nat.not_lt_zero _)⟩
    case round =>
     obtain ⟨j, hjg, rfl, HQ⟩ := hrel
     have Hmq : Hid (More w wr) := (HmW.out.trans HR.out.1).trans HQ.out.1
     have q1 := Hmq.out.cell Hq.out.1
     have q2 := Hmq.out.cell Hq.out.2
     cases gk with
     | zero =>
      obtain rfl : j = r := by omega
      go_wp2
      go_roundg q
      case measure => omega
      case rel =>
       refine ⟨k + 1, by omega, by first | rfl | simp, HR.out.1.trans HQ.out.1, fun c hc hsc => ?_⟩
       by_cases e : c = k
       ·subst e; rw [HRr.out.1]; exact HQ.out.2
       ·exact HR.out.2 c (by omega) hsc
     | succ g =>
      have hj : j < r := by omega
      have hj' : (j : Int) < (r : Int) := by omega
      obtain rfl := Ha.out (by omega)
      obtain rfl := Ha'.out (by omega)
      have p1 := Hmq.out.cell (H.out.1.words k Hk.out.1 j (by rw [HRr.out.1]; exact hj))
      have p2 := Hmq.out.cell (H.out.2.1.words k Hk.out.2.1 j (by rw [HRr.out.2]; exact hj))
      dsimp only at p1 p2
      obtain ⟨z, hz⟩ : ∃ z, x.wd k j = z := ⟨_, rfl⟩
      obtain ⟨z', hz'⟩ : ∃ z, y.wd k j = z := ⟨_, rfl⟩
      rw [hz] at p1
      rw [hz'] at p2
      have Hz : Hid (x.wd k j = z ∧ y.wd k j = z') := ⟨hz, hz'⟩
      clear hz hz'
      obtain ⟨S, HS⟩ : ∃ S : World → Prop, Hid (∀ w', S w' ↔ More wr w') := ⟨fun w' => More wr w', fun _ => Iff.rfl⟩
      have k0 : ∀ i : { w' // S w' }, i.val.cell? ⟨mb, mo + k, none⟩ = some (.slice (some ⟨gb k, go k, none⟩) r (C k)) := fun i => ((HS.out _).1 i.property).cell q1
      have k1 : ∀ i : { w' // S w' }, i.val.cell? ⟨mb', mo' + k, none⟩ = some (.slice (some ⟨gb' k, go' k, none⟩) r (C' k)) := fun i => ((HS.out _).1 i.property).cell q2
      have k2 : ∀ i : { w' // S w' }, i.val.cell? ⟨gb k, go k + j, none⟩ = some (.int .i64 z) := fun i => ((HS.out _).1 i.property).cell p1
      have k3 : ∀ i : { w' // S w' }, i.val.cell? ⟨gb' k, go' k + j, none⟩ = some (.int .i64 z') := fun i => ((HS.out _).1 i.property).cell p2
      have hne : Nonempty { w' // S w' } := ⟨⟨wr, (HS.out _).2 (More.refl _)⟩⟩
      go_wp2_with (fail)
      refine J01 (S := S) [(0, true), (1, true), (2, true), (3, true), (4, true), (5, true), (6, true), (7, true), (8, true), (9, true), (10, true), (11, true), (12, true), (13, true), (14, true)] (by kernel_rfl) (by kernel_rfl) (by kernel_rfl) ((HS.out _).2 (More.refl _).drew) ?_
      iterate 15 (refine J00 rfl (by kernel_rfl) (fun K hK => ?_); go_simp; refine hK _ _ ?_; clear hK K)
      refine J04 ?_
      clear k0 k1 k2 k3 hne p1 p2 q1 q2
      by_cases e : z = z'
      ·have e1 : (z != z') = false := by simp [e]
       have He : Hid (x.wd k j = y.wd k j) := by show _ = _; rw [Hz.out.1, Hz.out.2]; exact e
       clear e
       go_wp2
       go_roundg g
       case measure => omega
       case rel =>
        refine ⟨j + 1, by omega, by first | rfl | simp, HQ.out.1.drew, fun i hi => ?_⟩
        by_cases q : i = j
        ·subst q; exact He.out
        ·exact HQ.out.2 i (by omega)
      ·have e1 : (z != z') = true := by simp [e]
       have He : Hid (¬ x.wd k j = y.wd k j) := by show ¬ _; rw [Hz.out.1, Hz.out.2]; exact e
       clear e
       go_wp2
       go_ret
       exact Says.no (fun h => He.out ((HP.out.1 h) k Hk.out.2.2 Hse.out j (by rw [HRr.out.1]; exact hj))) Hmq.out.drew
set_option maxHeartbeats 2000000 in
theorem Jg4 (rv cv : Value) (hrv : ∃ a n c, rv = .slice a n c) (hcv : ∃ a n c, cv = .slice a n c) (e v t : Int) (su sv mu mv : Value) (w : World) (hsu : ∃ a n c, su = .slice a n c) (hsv : ∃ a n c, sv = .slice a n c) (hmu : ∃ a n c, mu = .slice a n c) (hmv : ∃ a n c, mv = .slice a n c)
  (c1 : ∀ w1 : World, More w w1 → Calls Try.prog 46 #[su, sv] w1 fun e w' => e = .returned (.bool true) ∧ More w1 w')
  (c2 : ∀ w1 : World, More w w1 → Calls Try.prog 19 #[.agg #[rv, cv], mu, mv] w1 fun e w' => e = .returned (.bool true) ∧ More w1 w') :
  Calls Try.prog 20 #[.agg #[rv, cv], .agg #[.int .i64 e, .int .i64 v, .int .i64 t, su, mu], .agg #[.int .i64 e, .int .i64 v, .int .i64 t, sv, mv]] w fun e w' => e = .returned (.bool true) ∧ More w w' := by
 obtain ⟨a, n, c, rfl⟩ := hrv
 obtain ⟨a2, n2, cc2, rfl⟩ := hcv
 obtain ⟨a3, n3, cc3, rfl⟩ := hsu
 obtain ⟨a4, n4, cc4, rfl⟩ := hsv
 obtain ⟨a5, n5, cc5, rfl⟩ := hmu
 obtain ⟨a6, n6, cc6, rfl⟩ := hmv
 have C1 : Hid (∀ w1 : World, More w w1 → Calls Try.prog 46 #[.slice a3 n3 cc3, .slice a4 n4 cc4] w1 fun e w' => e = .returned (.bool true) ∧ More w1 w') := c1
 have C2 : Hid (∀ w1 : World, More w w1 → Calls Try.prog 19 #[.agg #[.slice a n c, .slice a2 n2 cc2], .slice a5 n5 cc5, .slice a6 n6 cc6] w1 fun e w' => e = .returned (.bool true) ∧ More w1 w') := c2
 clear c1 c2
 go_enter Try.func20, Try.ntmps20
 go_wp2_with (fail)
 refine (C1.out _ ((((More.refl _).alloc _ _).alloc _ _).alloc _ _)).mono ?_
 rintro e1 w1 ⟨rfl, m1⟩
 have Hm1 : Hid (More w w1) := ((((More.refl _).alloc _ _).alloc _ _).alloc _ _).trans m1
 have B0 : Hid (Blk w1 w.heap.size #[.slice a n c, .slice a2 n2 cc2] 30) := (((Blk.last _ _ _).alloc _ _).alloc _ _).more m1
 have B1 : Hid (Blk w1 (w.heap.size + 1) #[.int .i64 e, .int .i64 v, .int .i64 t, .slice a3 n3 cc3, .slice a5 n5 cc5] 41) := ((by simpa using Blk.last (w.alloc (.cells #[.slice a n c, .slice a2 n2 cc2] 30)) #[.int .i64 e, .int .i64 v, .int .i64 t, .slice a3 n3 cc3, .slice a5 n5 cc5] 41 : Blk _ (w.heap.size + 1) _ _).alloc _ _).more m1
 have B2 : Hid (Blk w1 (w.heap.size + 1 + 1) #[.int .i64 e, .int .i64 v, .int .i64 t, .slice a4 n4 cc4, .slice a6 n6 cc6] 41) := (by simpa using Blk.last ((w.alloc (.cells #[.slice a n c, .slice a2 n2 cc2] 30)).alloc (.cells #[.int .i64 e, .int .i64 v, .int .i64 t, .slice a3 n3 cc3, .slice a5 n5 cc5] 41)) #[.int .i64 e, .int .i64 v, .int .i64 t, .slice a4 n4 cc4, .slice a6 n6 cc6] 41 : Blk _ (w.heap.size + 1 + 1) _ _).more m1
 clear m1 C1
 have p0 : w1.cell? ⟨w.heap.size, 0, none⟩ = some (.slice a n c) := B0.out.cell rfl
 have p1 : w1.cell? ⟨w.heap.size, 1, none⟩ = some (.slice a2 n2 cc2) := B0.out.cell rfl
 have x0 : w1.cell? ⟨w.heap.size + 1, 0, none⟩ = some (.int .i64 e) := B1.out.cell rfl
 have x1 : w1.cell? ⟨w.heap.size + 1, 1, none⟩ = some (.int .i64 v) := B1.out.cell rfl
 have x2 : w1.cell? ⟨w.heap.size + 1, 2, none⟩ = some (.int .i64 t) := B1.out.cell rfl
 have x4 : w1.cell? ⟨w.heap.size + 1, 4, none⟩ = some (.slice a5 n5 cc5) := B1.out.cell rfl
 have y0 : w1.cell? ⟨w.heap.size + 1 + 1, 0, none⟩ = some (.int .i64 e) := B2.out.cell rfl
 have y1 : w1.cell? ⟨w.heap.size + 1 + 1, 1, none⟩ = some (.int .i64 v) := B2.out.cell rfl
 have y2 : w1.cell? ⟨w.heap.size + 1 + 1, 2, none⟩ = some (.int .i64 t) := B2.out.cell rfl
 have y4 : w1.cell? ⟨w.heap.size + 1 + 1, 4, none⟩ = some (.slice a6 n6 cc6) := B2.out.cell rfl
 go_wp2_with (fail)
 refine (C2.out _ Hm1.out).mono ?_
 rintro e1 w2 ⟨rfl, m2⟩
 have Hm2 : Hid (More w w2) := Hm1.out.trans m2
 clear m2 C2
 go_wp2
 go_ret
 exact ⟨rfl, Hm2.out⟩

theorem J6c (p : Prg) (lo : Loc) (x y : Mem) (l l' : MLoc) (w : World) (hp : PIn w p lo) (hx : MIn w x l) (hy : MIn w y l') (hlx : x.ml = p.rl) (hly : y.ml = p.rl) (hrl : p.rl ≤ 6) (hlen : ∀ c, c < p.rl → x.len c = y.len c ∧ x.len c ≤ 64) (r : Bool) (hr : r = true ↔ PubI p x y) :
  Calls Try.prog 19 #[.agg #[.slice lo.ra p.rl lo.rc, .slice lo.ca p.cl lo.cc], .slice l.ma x.ml l.mc, .slice l'.ma y.ml l'.mc] w fun e w' => e = .returned (.bool r) ∧ More w w' := by
 refine (J7p p lo x y l l' w hp hx hy hlx hly hrl hlen ⟨_, _, _, rfl⟩).mono ?_
 rintro e w' ⟨q, rfl, hq, mm⟩
 have : q = r := Bool.eq_iff_iff.2 (hq.trans hr.symm)
 rw [this]
 exact ⟨rfl, mm⟩

theorem J6q {w : World} {v : Value} {l : List Se} (h : SeenAt w v l) : ∃ a n c, v = .slice a n c := by
 obtain ⟨a, b, o, c, rfl, _⟩ := h
 exact ⟨_, _, _, rfl⟩
end
section
open Go.RowKit
set_option linter.unusedVariables false
structure Pl where
 at_ : Nat
 r : Nat → Int
 wd : Nat → Int
 past : Nat → List Int

structure Sp where
 pl : Pl
 ahead : Bool
 since : Int
 back : Pl
 script : List Int
 seen : List Se

def setF {α : Type} (f : Nat → α) (k : Nat) (v : α) : Nat → α := fun j => if j = k then v else f j
def Sp.choice (s : Sp) : Int := s.script.headD 0
def Sp.leave (s : Sp) : Sp := if s.ahead = true then s else { s with ahead := true, since := -1, back := s.pl }
def Sp.returns (s : Sp) : Sp := { s with seen := s.seen ++ [⟨4, 0, 0⟩], ahead := false, pl := s.back }
def allI (p : Prg) : Int := baseI p.log p.rl

def Sp.see (s : Sp) (x : Se) : Sp := { s with seen := s.seen ++ [x] }
def Sp.go (s : Sp) (n : Nat) : Sp := { s with pl := { s.pl with at_ := n } }
def Sp.reg (s : Sp) (a v : Int) : Sp := { s with pl := { s.pl with r := setR s.pl.r a v } }

def wordS (p : Prg) (s : Sp) (i : Ins) (n : Int) : Sp :=
 if n < 0 ∨ allI p ≤ n then (if putI i = 0 then s.reg i.a 0 else s)
 else if putI i = 1 then { s with pl := { s.pl with past := setF s.pl.past n.toNat (s.pl.past n.toNat ++ [s.pl.wd n.toNat]), wd := setF s.pl.wd n.toNat (s.pl.r i.a.toNat) } }
 else
  if 0 < s.choice ∧ s.choice ≤ ((s.pl.past n.toNat).length : Int) then
   (({ s with script := s.script.tail }.reg i.a (s.pl.wd n.toNat)).leave).reg i.a ((s.pl.past n.toNat).getD ((s.pl.past n.toNat).length - s.choice.toNat) 0)
  else { s with script := s.script.tail }.reg i.a (s.pl.wd n.toNat)

def stepS (p : Prg) (s : Sp) : Sp × Bool × Option (Int × Int) :=
 if (p.ins s.pl.at_).op = 7 then (((s.see ⟨1, s.pl.at_, 0⟩).go (p.ins s.pl.at_).n.toNat), false, none)
 else if (p.ins s.pl.at_).op = 8 then
  (if J1o (p.ins s.pl.at_).c (s.pl.r (p.ins s.pl.at_).a.toNat) (s.pl.r (p.ins s.pl.at_).b.toNat) = true then
   (if s.choice = 0 then { (s.see ⟨1, s.pl.at_, 0⟩).go (p.ins s.pl.at_).n.toNat with script := s.script.tail } else ({ (s.see ⟨1, s.pl.at_, 0⟩).go (p.ins s.pl.at_).n.toNat with script := s.script.tail }.leave).go (s.pl.at_ + 1), false, none)
  else
   (if s.choice = 0 then { (s.see ⟨1, s.pl.at_, 0⟩).go (s.pl.at_ + 1) with script := s.script.tail } else ({ (s.see ⟨1, s.pl.at_, 0⟩).go (s.pl.at_ + 1) with script := s.script.tail }.leave).go (p.ins s.pl.at_).n.toNat, false, none))
 else if (p.ins s.pl.at_).op = 9 ∧ s.ahead = false then (s.see ⟨1, s.pl.at_, 0⟩, false, some (1, s.pl.r (p.ins s.pl.at_).a.toNat))
 else if (p.ins s.pl.at_).op = 9 ∨ (p.ins s.pl.at_).op = 12 then ((s.see ⟨1, s.pl.at_, 0⟩).go (s.pl.at_ + 1), true, none)
 else if 0 ≤ putI (p.ins s.pl.at_) then
  if s.ahead = false ∧ (idxI s.pl.r (p.ins s.pl.at_) < 0 ∨ J0e (p.log (p.ins s.pl.at_).c.toNat) ≤ idxI s.pl.r (p.ins s.pl.at_)) then (s.see ⟨1, s.pl.at_, 0⟩, false, some (2, 0))
  else (wordS p (((s.see ⟨1, s.pl.at_, 0⟩).see ⟨2, wrap64 (baseI p.log (p.ins s.pl.at_).c.toNat + idxI s.pl.r (p.ins s.pl.at_)), putI (p.ins s.pl.at_)⟩).go (s.pl.at_ + 1)) (p.ins s.pl.at_) (wrap64 (baseI p.log (p.ins s.pl.at_).c.toNat + idxI s.pl.r (p.ins s.pl.at_))), false, none)
 else ({ (s.see ⟨1, s.pl.at_, 0⟩).go (s.pl.at_ + 1) with pl := ⟨s.pl.at_ + 1, (regsI s.pl.r (p.ins s.pl.at_)).1, s.pl.wd, s.pl.past⟩, seen := s.seen ++ [⟨1, s.pl.at_, 0⟩] ++ (regsI s.pl.r (p.ins s.pl.at_)).2 }, false, none)

def Sp.after (s : Sp) (over : Bool) : Sp :=
 if s.ahead = true then (if over = true ∨ s.since + 1 = 12 then ({ s with since := s.since + 1 }).returns else { s with since := s.since + 1 }) else s

structure ShF where
 fin : Int
 val : Int
 steps : Int
 seen : List Se
 wd : Nat → Int

def Sp.noneLeft (s : Sp) (cl : Nat) : Sp := if cl ≤ s.pl.at_ ∧ s.ahead = true then s.returns else s
def Sp.real (s : Sp) : Pl := if s.ahead = true then s.back else s.pl

def runS (p : Prg) : Nat → Nat → Sp → ShF
 | 0, k, s => ⟨0, 0, k, s.seen, s.real.wd⟩
 | f + 1, k, s =>
  if p.cl ≤ (s.noneLeft p.cl).pl.at_ then ⟨2, 0, k, (s.noneLeft p.cl).seen, (s.noneLeft p.cl).real.wd⟩
  else match (stepS p (s.noneLeft p.cl)).2.2 with
   | some e => ⟨e.1, e.2, (k : Int) + 1, (stepS p (s.noneLeft p.cl)).1.seen, (stepS p (s.noneLeft p.cl)).1.real.wd⟩
   | none => runS p f (k + 1) ((stepS p (s.noneLeft p.cl)).1.after (stepS p (s.noneLeft p.cl)).2.1)

def playS (p : Prg) (wd : Nat → Int) (script : List Int) (fuel : Nat) : ShF := runS p fuel 0 ⟨⟨0, fun _ => 0, wd, fun _ => []⟩, false, 0, ⟨0, fun _ => 0, wd, fun _ => []⟩, script, []⟩
end
section
open Go.RowKit
set_option linter.unusedSimpArgs false
set_option linter.unusedVariables false
def PubW (p : Prg) (n : Nat) : Prop := ∃ c, c < p.rl ∧ p.sec c = false ∧ baseI p.log c ≤ (n : Int) ∧ (n : Int) < baseI p.log c + J0e (p.log c)

theorem J6t (l : Int) : 1 ≤ J0e l := by
 unfold J0e
 have : (0 : Int) < 2 ^ l.toNat := Int.pow_pos (by decide)
 omega
theorem J4t (log : Nat → Int) : ∀ a b, a ≤ b → baseI log a ≤ baseI log b
 | a, 0, h => by
  obtain rfl : a = 0 := by omega
  exact Int.le_refl _
 | a, b + 1, h => by
  by_cases e : a = b + 1
  ·subst e; exact Int.le_refl _
  ·have h1 := J4t log a b (by omega)
   have h2 := J6t (log b)
   rw [baseI]
   omega
theorem J6y (log : Nat → Int) (c : Nat) : 0 ≤ baseI log c := J4t log 0 c (Nat.zero_le _)
theorem J66 (log : Nat → Int) (c rl : Nat) (h : c < rl) : baseI log c + J0e (log c) ≤ baseI log rl := J4t log (c + 1) rl h
theorem Jb1 (log : Nat → Int) {c d : Nat} {n : Int} (h1 : baseI log c ≤ n) (h2 : n < baseI log c + J0e (log c)) (k1 : baseI log d ≤ n) (k2 : n < baseI log d + J0e (log d)) : c = d := by
 rcases Nat.lt_trichotomy c d with h | h | h
 ·have := J66 log c d h; omega
 ·exact h
 ·have := J66 log d c h; omega
theorem J73 {p : Prg} (h : J0f p.rl p.log) : ∀ c, c ≤ p.rl → baseI p.log c ≤ 64 * (c : Int)
 | 0, _ => by simp [baseI]
 | c + 1, hc => by
  have h1 := J73 h c (by omega)
  have h2 := h.2 c (by omega)
  have h3 := J1s (k := (p.log c).toNat) (by omega)
  rw [baseI]
  unfold J0e
  push_cast
  omega

def Stop (p : Prg) (k : Nat) : Prop := p.cl ≤ k ∨ (p.ins k).op = 9 ∨ (p.ins k).op = 12
def Jd1 (p : Prg) (k : Nat) (r : Nat → Int) : Nat := if J1o (p.ins k).c (r (p.ins k).a.toNat) (r (p.ins k).b.toNat) = true then (p.ins k).n.toNat else k + 1
def Jah (p : Prg) (k : Nat) (r : Nat → Int) : Nat := if J1o (p.ins k).c (r (p.ins k).a.toNat) (r (p.ins k).b.toNat) = true then k + 1 else (p.ins k).n.toNat

structure Tight (p : Prg) (W : Int → Prop) (lab : Nat → Nat → Bool) (I : Nat → (Nat → Int) → Prop) : Prop where
 regs : J0f p.rl p.log
 zero : W 0
 jump : ∀ k, k < p.cl → (p.ins k).op = 7 → ∀ r, I k r → (∀ j, j < 10 → lab k j = true → lab (p.ins k).n.toNat j = true) ∧ I (p.ins k).n.toNat r
 cond : ∀ k, k < p.cl → (p.ins k).op = 8 → ∀ r, I k r → (p.ins k).a.toNat < 10 ∧ (p.ins k).b.toNat < 10 ∧ lab k (p.ins k).a.toNat = false ∧ lab k (p.ins k).b.toNat = false ∧
  (∀ j, j < 10 → lab k j = true → lab (p.ins k).n.toNat j = true ∧ lab (k + 1) j = true) ∧ I (Jd1 p k r) r ∧ (I (Jah p k r) r ∨ Stop p (Jah p k r))
 halt : ∀ k, k < p.cl → (p.ins k).op = 9 → ∀ r, I k r → (p.ins k).a.toNat < 10 ∧ lab k (p.ins k).a.toNat = false
 fence : ∀ k, k < p.cl → (p.ins k).op = 12 → ∀ r, I k r → (∀ j, j < 10 → lab k j = true → lab (k + 1) j = true) ∧ I (k + 1) r
 word : ∀ k, k < p.cl → 0 ≤ putI (p.ins k) → ∀ r, I k r → (p.ins k).c.toNat < p.rl ∧ (p.ins k).a.toNat < 10 ∧ (0 ≤ idxI r (p.ins k) ∧ idxI r (p.ins k) < J0e (p.log (p.ins k).c.toNat)) ∧ (∀ t, (∀ j, j < 10 → lab k j = false → r j = t j) → idxI r (p.ins k) = idxI t (p.ins k))
 load : ∀ k, k < p.cl → putI (p.ins k) = 0 → ∀ r, I k r → (∀ j, j < 10 → j ≠ (p.ins k).a.toNat → lab k j = true → lab (k + 1) j = true) ∧ (p.sec (p.ins k).c.toNat = true → lab (k + 1) (p.ins k).a.toNat = true) ∧ ∀ v, W v → I (k + 1) (setR r (p.ins k).a v)
 put : ∀ k, k < p.cl → putI (p.ins k) = 1 → ∀ r, I k r → (∀ j, j < 10 → lab k j = true → lab (k + 1) j = true) ∧ (lab k (p.ins k).a.toNat = true → p.sec (p.ins k).c.toNat = true) ∧ I (k + 1) r
 kept : ∀ k, k < p.cl → putI (p.ins k) = 1 → ∀ r, I k r → W (r (p.ins k).a.toNat)
 op : ∀ k, k < p.cl → ¬ (p.ins k).op = 7 → ¬ (p.ins k).op = 8 → ¬ (p.ins k).op = 9 → ¬ (p.ins k).op = 12 → ¬ 0 ≤ putI (p.ins k) → ∀ r, I k r →
  (∀ t, (∀ j, j < 10 → lab k j = false → r j = t j) → (regsI r (p.ins k)).2 = (regsI t (p.ins k)).2 ∧ ∀ j, j < 10 → lab (k + 1) j = false → (regsI r (p.ins k)).1 j = (regsI t (p.ins k)).1 j) ∧ I (k + 1) (regsI r (p.ins k)).1

section
variable {p : Prg} {W : Int → Prop} {lab : Nat → Nat → Bool} {I : Nat → (Nat → Int) → Prop}

structure TwinP (p : Prg) (lab : Nat → Nat → Bool) (a b : Pl) : Prop where
 at_ : a.at_ = b.at_
 r : ∀ j, j < 10 → lab a.at_ j = false → a.r j = b.r j
 len : ∀ n, (a.past n).length = (b.past n).length
 wd : ∀ n, PubW p n → a.wd n = b.wd n
 past : ∀ n, PubW p n → a.past n = b.past n
def Wds (W : Int → Prop) (wd : Nat → Int) (past : Nat → List Int) : Prop := ∀ n, W (wd n) ∧ ∀ v, v ∈ past n → W v
def Both (W : Int → Prop) (I : Nat → (Nat → Int) → Prop) (a b : Pl) : Prop := (I a.at_ a.r ∧ Wds W a.wd a.past) ∧ (I b.at_ b.r ∧ Wds W b.wd b.past)
theorem Wds.put {W : Int → Prop} {wd : Nat → Int} {past : Nat → List Int} (h : Wds W wd past) (n : Nat) {x : Int} (hx : W x) : Wds W (setF wd n x) (setF past n (past n ++ [wd n])) := fun m => by
 unfold setF
 by_cases e : m = n
 ·rw [if_pos e, if_pos e]
  refine ⟨hx, fun v hv => ?_⟩
  rcases List.mem_append.1 hv with q | q
  ·exact (h n).2 v q
  ·rw [List.mem_singleton.1 q]; exact (h n).1
 ·rw [if_neg e, if_neg e]; exact h m
theorem Wds.was {W : Int → Prop} {wd : Nat → Int} {past : Nat → List Int} (h : Wds W wd past) (h0 : W 0) (n k : Nat) : W ((past n).getD k 0) := by
 rw [List.getD_eq_getElem?_getD]
 cases e : (past n)[k]? with
 | none => exact h0
 | some v => exact (h n).2 v (List.mem_of_getElem? e)

structure TwinS (p : Prg) (W : Int → Prop) (lab : Nat → Nat → Bool) (I : Nat → (Nat → Int) → Prop) (a b : Sp) : Prop where
 pl : TwinP p lab a.pl b.pl
 inv : Both W I a.pl b.pl ∨ (a.ahead = true ∧ Stop p a.pl.at_)
 ahead : a.ahead = b.ahead
 since : a.since = b.since
 script : a.script = b.script
 seen : a.seen = b.seen
 back : a.ahead = true → TwinP p lab a.back b.back ∧ Both W I a.back b.back

theorem TwinS.both {a b : Sp} (h : TwinS p W lab I a b) (ha : a.ahead = false) : Both W I a.pl b.pl := by
 rcases h.inv with q | ⟨q, _⟩
 ·exact q
 ·rw [ha] at q; cases q
theorem J1j (s : Sp) : s.leave.pl = s.pl := by unfold Sp.leave; split <;> rfl
theorem J3a (s : Sp) : s.leave.ahead = true := by
 unfold Sp.leave
 split
 ·assumption
 ·rfl
theorem TwinS.leave {a b : Sp} (h : TwinS p W lab I a b) (hb : Both W I a.pl b.pl) : TwinS p W lab I a.leave b.leave := by
 have e' := h.ahead
 unfold Sp.leave
 by_cases e : a.ahead = true
 ·rw [if_pos e, if_pos (e'.symm.trans e)]; exact h
 ·rw [if_neg e, if_neg (fun q => e (e'.trans q))]
  exact ⟨h.pl, .inl hb, rfl, rfl, h.script, h.seen, fun _ => ⟨h.pl, hb⟩⟩
theorem TwinS.returns {a b : Sp} (h : TwinS p W lab I a b) (ha : a.ahead = true) : TwinS p W lab I a.returns b.returns :=
 ⟨(h.back ha).1, .inl (h.back ha).2, rfl, h.since, h.script, by show _ ++ _ = _ ++ _; rw [h.seen], fun q => absurd q (by simp [Sp.returns])⟩
theorem TwinS.to {a b : Sp} (h : TwinS p W lab I a b) {x y : Pl} (hp : TwinP p lab x y) (hi : Both W I x y ∨ (a.ahead = true ∧ Stop p x.at_)) : TwinS p W lab I { a with pl := x } { b with pl := y } :=
 ⟨hp, hi, h.ahead, h.since, h.script, h.seen, h.back⟩
theorem TwinS.tail {a b : Sp} (h : TwinS p W lab I a b) : TwinS p W lab I { a with script := a.script.tail } { b with script := b.script.tail } :=
 ⟨h.pl, h.inv, h.ahead, h.since, by show a.script.tail = b.script.tail; rw [h.script], h.seen, h.back⟩
theorem TwinS.shown {a b : Sp} (h : TwinS p W lab I a b) (l : List Se) : TwinS p W lab I { a with seen := a.seen ++ l } { b with seen := b.seen ++ l } :=
 ⟨h.pl, h.inv, h.ahead, h.since, h.script, by show _ ++ _ = _ ++ _; rw [h.seen], h.back⟩

theorem TwinS.after {a b : Sp} (h : TwinS p W lab I a b) (over : Bool) : TwinS p W lab I (a.after over) (b.after over) := by
 have e' := h.ahead
 have s' := h.since
 have h' : TwinS p W lab I { a with since := a.since + 1 } { b with since := b.since + 1 } := ⟨h.pl, h.inv, h.ahead, by show a.since + 1 = b.since + 1; rw [s'], h.script, h.seen, h.back⟩
 unfold Sp.after
 by_cases e : a.ahead = true
 ·rw [if_pos e, if_pos (e'.symm.trans e)]
  by_cases e2 : over = true ∨ a.since + 1 = 12
  ·rw [if_pos e2, if_pos (by rw [← s']; exact e2)]; exact h'.returns e
  ·rw [if_neg e2, if_neg (by rw [← s']; exact e2)]; exact h'
 ·rw [if_neg e, if_neg (fun q => e (e'.trans q))]; exact h
theorem TwinS.noneLeft {a b : Sp} (h : TwinS p W lab I a b) (cl : Nat) : TwinS p W lab I (a.noneLeft cl) (b.noneLeft cl) := by
 have e' := h.ahead
 have a' := h.pl.at_
 unfold Sp.noneLeft
 by_cases e : cl ≤ a.pl.at_ ∧ a.ahead = true
 ·rw [if_pos e, if_pos (by rw [← e', ← a']; exact e)]; exact h.returns e.2
 ·rw [if_neg e, if_neg (by rw [← e', ← a']; exact e)]; exact h
theorem TwinS.real {a b : Sp} (h : TwinS p W lab I a b) : TwinP p lab a.real b.real := by
 have e' := h.ahead
 unfold Sp.real
 by_cases e : a.ahead = true
 ·rw [if_pos e, if_pos (e'.symm.trans e)]; exact (h.back e).1
 ·rw [if_neg e, if_neg (fun q => e (e'.trans q))]; exact h.pl

theorem TwinP.go {a b : Pl} (h : TwinP p lab a b) (n : Nat) (hl : ∀ j, j < 10 → lab a.at_ j = true → lab n j = true) : TwinP p lab { a with at_ := n } { b with at_ := n } :=
 ⟨rfl, fun j hj e => h.r j hj (by cases q : lab a.at_ j with | false => rfl | true => rw [hl j hj q] at e; cases e), h.len, h.wd, h.past⟩
theorem TwinP.reg {a b : Pl} (h : TwinP p lab a b) (n : Nat) (x v v' : Int) (hl : ∀ j, j < 10 → j ≠ x.toNat → lab a.at_ j = true → lab n j = true) (hv : lab n x.toNat = false → v = v') :
  TwinP p lab { a with at_ := n, r := setR a.r x v } { b with at_ := n, r := setR b.r x v' } := by
 refine ⟨rfl, fun j hj e => ?_, h.len, h.wd, h.past⟩
 show setR a.r x v j = setR b.r x v' j
 unfold setR
 by_cases q : j = x.toNat
 ·rw [if_pos q, if_pos q]; exact hv (q ▸ e)
 ·rw [if_neg q, if_neg q]
  refine h.r j hj ?_
  cases q2 : lab a.at_ j with
  | false => rfl
  | true =>
   dsimp only at e
   rw [hl j hj q q2] at e; cases e

theorem J7y (r : Nat → Int) (a v v' : Int) : setR (setR r a v) a v' = setR r a v' := by
 funext j
 unfold setR
 split <;> rfl

structure J4q (p : Prg) (W : Int → Prop) (lab : Nat → Nat → Bool) (I : Nat → (Nat → Int) → Prop) (x y : Sp × Bool × Option (Int × Int)) : Prop where
 fin : x.2.2 = y.2.2
 ends : x.2.2 ≠ none → x.1.seen = y.1.seen ∧ TwinP p lab x.1.real y.1.real
 goes : x.2.2 = none → TwinS p W lab I (x.1.after x.2.1) (y.1.after y.2.1)

theorem Jhp (T : Tight p W lab I) {k : Nat} (hk : k < p.cl) (hw : 0 ≤ putI (p.ins k)) {r : Nat → Int} (hi : I k r) :
  wrap64 (baseI p.log (p.ins k).c.toNat + idxI r (p.ins k)) = baseI p.log (p.ins k).c.toNat + idxI r (p.ins k) ∧ 0 ≤ baseI p.log (p.ins k).c.toNat + idxI r (p.ins k) ∧ baseI p.log (p.ins k).c.toNat + idxI r (p.ins k) < allI p := by
 obtain ⟨h1, _, h5, _⟩ := T.word k hk hw r hi
 have h6 := J66 p.log _ _ h1
 have h7 := J6y p.log (p.ins k).c.toNat
 have h8 := J73 T.regs p.rl (Nat.le_refl _)
 have h9 := T.regs.1
 unfold allI
 refine ⟨?_, by omega, by omega⟩
 unfold wrap64
 omega
theorem Jgo {c : Nat} {x : Int} (hc : c < p.rl) (h0 : 0 ≤ x) (h1 : x < J0e (p.log c)) : PubW p (baseI p.log c + x).toNat ↔ p.sec c = false := by
 have hb := J6y p.log c
 constructor
 ·rintro ⟨d, hd, hs, h2, h3⟩
  have e : d = c := Jb1 p.log (n := baseI p.log c + x) (by omega) (by omega) (by omega) (by omega)
  rw [← e]; exact hs
 ·intro hs
  exact ⟨c, hc, hs, by omega, by omega⟩

theorem Jcm (T : Tight p W lab I) (k : Nat) (hk : k < p.cl) (hp : 0 ≤ putI (p.ins k)) (r r' wd wd' : Nat → Int) (past past' : Nat → List Int) (ahead : Bool) (since : Int) (back back' : Pl) (script : List Int) (seen : List Se)
  (hr : ∀ j, j < 10 → lab k j = false → r j = r' j) (hlen : ∀ n, (past n).length = (past' n).length) (hwd : ∀ n, PubW p n → wd n = wd' n) (hpast : ∀ n, PubW p n → past n = past' n) (hI : I k r) (hJ : I k r') (hV : Wds W wd past) (hV' : Wds W wd' past')
  (hback : ahead = true → TwinP p lab back back' ∧ Both W I back back') (n : Int) (hn0 : 0 ≤ n) (hn1 : n < allI p) (hpub : PubW p n.toNat ↔ p.sec (p.ins k).c.toNat = false) :
  TwinS p W lab I (wordS p ⟨⟨k + 1, r, wd, past⟩, ahead, since, back, script, seen⟩ (p.ins k) n) (wordS p ⟨⟨k + 1, r', wd', past'⟩, ahead, since, back', script, seen⟩ (p.ins k) n) := by
 obtain ⟨w1, w2, _, _⟩ := T.word k hk hp r hI
 have hno : ¬ (n < 0 ∨ allI p ≤ n) := by omega
 by_cases hq : putI (p.ins k) = 1
 ·obtain ⟨t1, t2, t3⟩ := T.put k hk hq r hI
  have t3' := (T.put k hk hq r' hJ).2.2
  unfold wordS
  dsimp only
  rw [if_neg hno, if_neg hno, if_pos hq, if_pos hq]
  refine ⟨⟨rfl, ?_, fun m => ?_, fun m hm => ?_, fun m hm => ?_⟩, .inl ⟨⟨t3, hV.put _ (T.kept k hk hq r hI)⟩, ⟨t3', hV'.put _ (T.kept k hk hq r' hJ)⟩⟩, rfl, rfl, rfl, rfl, hback⟩
  ·intro j hj e
   refine hr j hj ?_
   cases q : lab k j with
   | false => rfl
   | true =>
    dsimp only at e
    rw [t1 j hj q] at e; cases e
  ·dsimp only
   unfold setF
   by_cases e : m = n.toNat
   ·rw [if_pos e, if_pos e, List.length_append, List.length_append, hlen]; rfl
   ·rw [if_neg e, if_neg e]; exact hlen m
  ·dsimp only
   unfold setF
   by_cases e : m = n.toNat
   ·rw [if_pos e, if_pos e]
    refine hr _ w2 ?_
    cases q : lab k (p.ins k).a.toNat with
    | false => rfl
    | true =>
     have := t2 q
     rw [e] at hm
     rw [hpub.1 hm] at this; cases this
   ·rw [if_neg e, if_neg e]; exact hwd m hm
  ·dsimp only
   unfold setF
   by_cases e : m = n.toNat
   ·rw [e] at hm
    rw [if_pos e, if_pos e, hpast _ hm, hwd _ hm]
   ·rw [if_neg e, if_neg e]; exact hpast m hm
 ·have h0 : putI (p.ins k) = 0 := by
   unfold putI at hp hq ⊢
   by_cases o1 : (p.ins k).op = 3 ∨ (p.ins k).op = 5
   ·rw [if_pos o1]
   ·rw [if_neg o1] at hp hq
    by_cases o2 : (p.ins k).op = 4 ∨ (p.ins k).op = 6
    ·rw [if_pos o2] at hq; exact absurd rfl hq
    ·rw [if_neg o2] at hp; omega
  obtain ⟨t1, t2, t3⟩ := T.load k hk h0 r hI
  have t3' := (T.load k hk h0 r' hJ).2.2
  have hpubv : lab (k + 1) (p.ins k).a.toNat = false → PubW p n.toNat := fun q => hpub.2 (by
   cases q2 : p.sec (p.ins k).c.toNat with
   | false => rfl
   | true => rw [t2 q2] at q; cases q)
  have base : TwinP p lab ⟨k, r, wd, past⟩ ⟨k, r', wd', past'⟩ := ⟨rfl, hr, hlen, hwd, hpast⟩
  have P1 := base.reg (k + 1) (p.ins k).a (wd n.toNat) (wd' n.toNat) t1 (fun q => hwd _ (hpubv q))
  have B1 : Both W I ⟨k + 1, setR r (p.ins k).a (wd n.toNat), wd, past⟩ ⟨k + 1, setR r' (p.ins k).a (wd' n.toNat), wd', past'⟩ := ⟨⟨t3 _ (hV _).1, hV⟩, ⟨t3' _ (hV' _).1, hV'⟩⟩
  have S1 : TwinS p W lab I ⟨⟨k + 1, setR r (p.ins k).a (wd n.toNat), wd, past⟩, ahead, since, back, script.tail, seen⟩ ⟨⟨k + 1, setR r' (p.ins k).a (wd' n.toNat), wd', past'⟩, ahead, since, back', script.tail, seen⟩ :=
   ⟨P1, .inl B1, rfl, rfl, rfl, rfl, hback⟩
  unfold wordS
  dsimp only
  rw [if_neg hno, if_neg hno, if_neg hq, if_neg hq]
  unfold Sp.choice
  dsimp only
  rw [← hlen]
  by_cases hc : 0 < script.headD 0 ∧ script.headD 0 ≤ ((past n.toNat).length : Int)
  ·rw [if_pos hc, if_pos hc]
   have S2 := S1.leave B1
   have P2 : TwinP p lab { (Sp.leave ⟨⟨k + 1, setR r (p.ins k).a (wd n.toNat), wd, past⟩, ahead, since, back, script.tail, seen⟩).pl with r := setR (Sp.leave ⟨⟨k + 1, setR r (p.ins k).a (wd n.toNat), wd, past⟩, ahead, since, back, script.tail, seen⟩).pl.r (p.ins k).a ((past n.toNat).getD ((past n.toNat).length - (script.headD 0).toNat) 0) }
     { (Sp.leave ⟨⟨k + 1, setR r' (p.ins k).a (wd' n.toNat), wd', past'⟩, ahead, since, back', script.tail, seen⟩).pl with r := setR (Sp.leave ⟨⟨k + 1, setR r' (p.ins k).a (wd' n.toNat), wd', past'⟩, ahead, since, back', script.tail, seen⟩).pl.r (p.ins k).a ((past' n.toNat).getD ((past n.toNat).length - (script.headD 0).toNat) 0) } := by
    rw [J1j, J1j]
    exact P1.reg (k + 1) (p.ins k).a _ _ (fun j _ _ q => q) (fun q => by rw [hpast _ (hpubv q)])
   refine TwinS.to S2 P2 (.inl ⟨⟨?_, ?_⟩, ⟨?_, ?_⟩⟩)
   ·rw [J1j]
    show I (k + 1) (setR (setR r _ _) _ _)
    rw [J7y]; exact t3 _ (hV.was T.zero _ _)
   ·rw [J1j]; exact hV
   ·rw [J1j]
    show I (k + 1) (setR (setR r' _ _) _ _)
    rw [J7y]; exact t3' _ (hV'.was T.zero _ _)
   ·rw [J1j]; exact hV'
  ·rw [if_neg hc, if_neg hc]
   exact S1

theorem Jdg (T : Tight p W lab I) {a b : Sp} (h : TwinS p W lab I a b) (hk : a.pl.at_ < p.cl) (h12 : (p.ins a.pl.at_).op = 9 ∨ (p.ins a.pl.at_).op = 12) : J4q p W lab I (stepS p a) (stepS p b) := by
 have hat := h.pl.at_
 have hstep : TwinS p W lab I (a.see ⟨1, a.pl.at_, 0⟩) (b.see ⟨1, a.pl.at_, 0⟩) := h.shown _
 have e7 : ¬ (p.ins a.pl.at_).op = 7 := by omega
 have e8 : ¬ (p.ins a.pl.at_).op = 8 := by omega
 unfold stepS
 rw [← hat, if_neg e7, if_neg e8, if_neg e7, if_neg e8]
 by_cases e9 : (p.ins a.pl.at_).op = 9 ∧ a.ahead = false
 ·have e9b : (p.ins a.pl.at_).op = 9 ∧ b.ahead = false := by rw [← h.ahead]; exact e9
  rw [if_pos e9, if_pos e9b]
  obtain ⟨t1, t2⟩ := T.halt _ hk e9.1 _ (h.both e9.2).1.1
  refine ⟨?_, fun _ => ⟨?_, ?_⟩, fun q => by cases q⟩
  ·show some _ = some _
   rw [h.pl.r _ t1 t2]
  ·exact hstep.seen
  ·exact hstep.real
 ·have e9b : ¬ ((p.ins a.pl.at_).op = 9 ∧ b.ahead = false) := by rw [← h.ahead]; exact e9
  rw [if_neg e9, if_neg e9b, if_pos h12, if_pos h12]
  refine ⟨rfl, fun q => absurd rfl q, fun _ => ?_⟩
  by_cases ha : a.ahead = true
  ·-- it is taken back
   have hb : b.ahead = true := h.ahead ▸ ha
   have hs := hstep.seen
   show TwinS p W lab I (Sp.after _ true) (Sp.after _ true)
   unfold Sp.after
   rw [if_pos (show ((a.see ⟨1, a.pl.at_, 0⟩).go (a.pl.at_ + 1)).ahead = true from ha), if_pos (.inl rfl), if_pos (show ((b.see ⟨1, a.pl.at_, 0⟩).go (a.pl.at_ + 1)).ahead = true from hb), if_pos (.inl rfl)]
   refine ⟨(h.back ha).1, .inl (h.back ha).2, rfl, ?_, h.script, ?_, fun q => absurd q (by simp [Sp.returns])⟩
   ·show a.since + 1 = b.since + 1
    rw [h.since]
   ·show (a.see ⟨1, a.pl.at_, 0⟩).seen ++ [_] = (b.see ⟨1, a.pl.at_, 0⟩).seen ++ [_]
    rw [hs]
  ·-- an IFence that is gone past
   have ha' : a.ahead = false := by simpa using ha
   have o12 : (p.ins a.pl.at_).op = 12 := by rcases h12 with q | q; exact absurd ⟨q, ha'⟩ e9; exact q
   have hbo := h.both ha'
   obtain ⟨t1, t2⟩ := T.fence _ hk o12 _ hbo.1.1
   refine TwinS.after ?_ true
   refine hstep.to (h.pl.go _ t1) (.inl ⟨⟨t2, hbo.1.2⟩, ⟨?_, hbo.2.2⟩⟩)
   have := hbo.2.1
   rw [← hat] at this
   exact (T.fence _ hk o12 _ this).2

theorem Jbw (T : Tight p W lab I) {a b : Sp} (h : TwinS p W lab I a b) (hk : a.pl.at_ < p.cl) (hbo : Both W I a.pl b.pl) (e7 : (p.ins a.pl.at_).op = 7) : J4q p W lab I (stepS p a) (stepS p b) := by
 have hat := h.pl.at_
 have hstep : TwinS p W lab I (a.see ⟨1, a.pl.at_, 0⟩) (b.see ⟨1, a.pl.at_, 0⟩) := h.shown _
 have hI := hbo.1.1
 have hJ := hbo.2.1
 rw [← hat] at hJ
 obtain ⟨t1, t2⟩ := T.jump _ hk e7 _ hI
 have t2' := (T.jump _ hk e7 _ hJ).2
 unfold stepS
 rw [← hat, if_pos e7, if_pos e7]
 refine ⟨rfl, fun q => absurd rfl q, fun _ => TwinS.after (hstep.to (h.pl.go _ t1) (.inl ⟨⟨t2, hbo.1.2⟩, ⟨t2', hbo.2.2⟩⟩)) false⟩

theorem Jbu (T : Tight p W lab I) {a b : Sp} (h : TwinS p W lab I a b) (hk : a.pl.at_ < p.cl) (hbo : Both W I a.pl b.pl) (e7 : ¬ (p.ins a.pl.at_).op = 7) (e8 : (p.ins a.pl.at_).op = 8) : J4q p W lab I (stepS p a) (stepS p b) := by
 have hat := h.pl.at_
 have hstep : TwinS p W lab I (a.see ⟨1, a.pl.at_, 0⟩) (b.see ⟨1, a.pl.at_, 0⟩) := h.shown _
 have hI := hbo.1.1
 have hJ := hbo.2.1
 rw [← hat] at hJ
 obtain ⟨t1, t2, t3, t4, t5, wI⟩ := T.cond _ hk e8 _ hI
 have wJ := (T.cond _ hk e8 _ hJ).2.2.2.2.2
 have ra := h.pl.r _ t1 t3
 have rb := h.pl.r _ t2 t4
 have ch : a.choice = b.choice := by unfold Sp.choice; rw [h.script]
 unfold Jd1 Jah at wI wJ
 rw [← ra, ← rb] at wJ
 unfold stepS
 rw [← hat, if_neg e7, if_neg e7, if_pos e8, if_pos e8, ← ra, ← rb, ← ch]
 by_cases hh : J1o (p.ins a.pl.at_).c (a.pl.r (p.ins a.pl.at_).a.toNat) (a.pl.r (p.ins a.pl.at_).b.toNat) = true
 ·rw [if_pos hh, if_pos hh] at wI
  rw [if_pos hh, if_pos hh] at wJ
  rw [if_pos hh, if_pos hh]
  have h1 : TwinS p W lab I { (a.see ⟨1, a.pl.at_, 0⟩).go (p.ins a.pl.at_).n.toNat with script := a.script.tail } { (b.see ⟨1, a.pl.at_, 0⟩).go (p.ins a.pl.at_).n.toNat with script := b.script.tail } :=
   (hstep.to (h.pl.go _ (fun j hj q => (t5 j hj q).1)) (.inl ⟨⟨wI.1, hbo.1.2⟩, ⟨wJ.1, hbo.2.2⟩⟩)).tail
  by_cases hc : a.choice = 0
  ·rw [if_pos hc, if_pos hc]
   exact ⟨rfl, fun q => absurd rfl q, fun _ => h1.after false⟩
  ·rw [if_neg hc, if_neg hc]
   refine ⟨rfl, fun q => absurd rfl q, fun _ => TwinS.after ?_ false⟩
   have h2 := h1.leave ⟨⟨wI.1, hbo.1.2⟩, ⟨wJ.1, hbo.2.2⟩⟩
   refine TwinS.to h2 (x := { (Sp.leave _).pl with at_ := a.pl.at_ + 1 }) (y := { (Sp.leave _).pl with at_ := a.pl.at_ + 1 }) ?_ ?_
   ·rw [J1j, J1j]
    exact h.pl.go _ (fun j hj q => (t5 j hj q).2)
   ·rw [J1j, J1j]
    rcases wI.2 with q | q
    ·rcases wJ.2 with q2 | q2
     ·exact .inl ⟨⟨q, hbo.1.2⟩, ⟨q2, hbo.2.2⟩⟩
     ·exact .inr ⟨J3a _, q2⟩
    ·exact .inr ⟨J3a _, q⟩
 ·rw [if_neg hh, if_neg hh] at wI
  rw [if_neg hh, if_neg hh] at wJ
  rw [if_neg hh, if_neg hh]
  have h1 : TwinS p W lab I { (a.see ⟨1, a.pl.at_, 0⟩).go (a.pl.at_ + 1) with script := a.script.tail } { (b.see ⟨1, a.pl.at_, 0⟩).go (a.pl.at_ + 1) with script := b.script.tail } :=
   (hstep.to (h.pl.go _ (fun j hj q => (t5 j hj q).2)) (.inl ⟨⟨wI.1, hbo.1.2⟩, ⟨wJ.1, hbo.2.2⟩⟩)).tail
  by_cases hc : a.choice = 0
  ·rw [if_pos hc, if_pos hc]
   exact ⟨rfl, fun q => absurd rfl q, fun _ => h1.after false⟩
  ·rw [if_neg hc, if_neg hc]
   refine ⟨rfl, fun q => absurd rfl q, fun _ => TwinS.after ?_ false⟩
   have h2 := h1.leave ⟨⟨wI.1, hbo.1.2⟩, ⟨wJ.1, hbo.2.2⟩⟩
   refine TwinS.to h2 (x := { (Sp.leave _).pl with at_ := (p.ins a.pl.at_).n.toNat }) (y := { (Sp.leave _).pl with at_ := (p.ins a.pl.at_).n.toNat }) ?_ ?_
   ·rw [J1j, J1j]
    exact h.pl.go _ (fun j hj q => (t5 j hj q).1)
   ·rw [J1j, J1j]
    rcases wI.2 with q | q
    ·rcases wJ.2 with q2 | q2
     ·exact .inl ⟨⟨q, hbo.1.2⟩, ⟨q2, hbo.2.2⟩⟩
     ·exact .inr ⟨J3a _, q2⟩
    ·exact .inr ⟨J3a _, q⟩

theorem Jc9 (T : Tight p W lab I) {a b : Sp} (h : TwinS p W lab I a b) (hk : a.pl.at_ < p.cl) (hbo : Both W I a.pl b.pl) (e7 : ¬ (p.ins a.pl.at_).op = 7) (e8 : ¬ (p.ins a.pl.at_).op = 8) (h12 : ¬ ((p.ins a.pl.at_).op = 9 ∨ (p.ins a.pl.at_).op = 12)) (hp : 0 ≤ putI (p.ins a.pl.at_)) : J4q p W lab I (stepS p a) (stepS p b) := by
 have hat := h.pl.at_
 have hstep : TwinS p W lab I (a.see ⟨1, a.pl.at_, 0⟩) (b.see ⟨1, a.pl.at_, 0⟩) := h.shown _
 have hI := hbo.1.1
 have hJ := hbo.2.1
 rw [← hat] at hJ
 have e9 : ¬ (p.ins a.pl.at_).op = 9 := by omega
 have e9a : ¬ ((p.ins a.pl.at_).op = 9 ∧ a.ahead = false) := fun q => e9 q.1
 have e9b : ¬ ((p.ins a.pl.at_).op = 9 ∧ b.ahead = false) := fun q => e9 q.1
 obtain ⟨w1, w2, w3, w4⟩ := T.word _ hk hp _ hI
 have hx := w4 b.pl.r h.pl.r
 obtain ⟨x0, x1⟩ := w3
 obtain ⟨n1, n2, n3⟩ := Jhp T hk hp hI
 have hpub := Jgo w1 x0 x1
 have oa : ¬ (a.ahead = false ∧ (idxI a.pl.r (p.ins a.pl.at_) < 0 ∨ J0e (p.log (p.ins a.pl.at_).c.toNat) ≤ idxI a.pl.r (p.ins a.pl.at_))) := by omega
 have ob : ¬ (b.ahead = false ∧ (idxI a.pl.r (p.ins a.pl.at_) < 0 ∨ J0e (p.log (p.ins a.pl.at_).c.toNat) ≤ idxI a.pl.r (p.ins a.pl.at_))) := by omega
 unfold stepS
 rw [← hat, if_neg e7, if_neg e7, if_neg e8, if_neg e8, if_neg e9a, if_neg e9b, if_neg h12, if_neg h12, if_pos hp, if_pos hp, ← hx, if_neg oa, if_neg ob, n1]
 refine ⟨rfl, fun q => absurd rfl q, fun _ => TwinS.after ?_ false⟩
 generalize hn : baseI p.log (p.ins a.pl.at_).c.toNat + idxI a.pl.r (p.ins a.pl.at_) = n at *
 have hse : a.seen ++ [(⟨1, a.pl.at_, 0⟩ : Se)] ++ [⟨2, n, putI (p.ins a.pl.at_)⟩] = b.seen ++ [(⟨1, a.pl.at_, 0⟩ : Se)] ++ [⟨2, n, putI (p.ins a.pl.at_)⟩] := by rw [h.seen]
 have W := Jcm T a.pl.at_ hk hp a.pl.r b.pl.r a.pl.wd b.pl.wd a.pl.past b.pl.past a.ahead a.since a.back b.back a.script (a.seen ++ [(⟨1, a.pl.at_, 0⟩ : Se)] ++ [⟨2, n, putI (p.ins a.pl.at_)⟩]) h.pl.r h.pl.len h.pl.wd h.pl.past hI hJ hbo.1.2 hbo.2.2 h.back n n2 n3 hpub
 have eb : (((b.see ⟨1, a.pl.at_, 0⟩).see ⟨2, n, putI (p.ins a.pl.at_)⟩).go (a.pl.at_ + 1)) = ⟨⟨a.pl.at_ + 1, b.pl.r, b.pl.wd, b.pl.past⟩, a.ahead, a.since, b.back, a.script, a.seen ++ [(⟨1, a.pl.at_, 0⟩ : Se)] ++ [⟨2, n, putI (p.ins a.pl.at_)⟩]⟩ := by
  rw [hse, h.ahead, h.since, h.script]; rfl
 rw [eb]
 exact W

theorem Jhq (T : Tight p W lab I) {a b : Sp} (h : TwinS p W lab I a b) (hk : a.pl.at_ < p.cl) (hbo : Both W I a.pl b.pl) (e7 : ¬ (p.ins a.pl.at_).op = 7) (e8 : ¬ (p.ins a.pl.at_).op = 8) (h12 : ¬ ((p.ins a.pl.at_).op = 9 ∨ (p.ins a.pl.at_).op = 12)) (hp : ¬ 0 ≤ putI (p.ins a.pl.at_)) : J4q p W lab I (stepS p a) (stepS p b) := by
 have hat := h.pl.at_
 have hstep : TwinS p W lab I (a.see ⟨1, a.pl.at_, 0⟩) (b.see ⟨1, a.pl.at_, 0⟩) := h.shown _
 have hI := hbo.1.1
 have hJ := hbo.2.1
 rw [← hat] at hJ
 have e9 : ¬ (p.ins a.pl.at_).op = 9 := by omega
 have e9a : ¬ ((p.ins a.pl.at_).op = 9 ∧ a.ahead = false) := fun q => e9 q.1
 have e9b : ¬ ((p.ins a.pl.at_).op = 9 ∧ b.ahead = false) := fun q => e9 q.1
 obtain ⟨t1, v1⟩ := T.op _ hk e7 e8 e9 (by omega) hp _ hI
 have v2 := (T.op _ hk e7 e8 e9 (by omega) hp _ hJ).2
 obtain ⟨u1, u2⟩ := t1 b.pl.r h.pl.r
 unfold stepS
 rw [← hat, if_neg e7, if_neg e7, if_neg e8, if_neg e8, if_neg e9a, if_neg e9b, if_neg h12, if_neg h12, if_neg hp, if_neg hp]
 generalize regsI a.pl.r (p.ins a.pl.at_) = x at u1 u2 v1 ⊢
 generalize regsI b.pl.r (p.ins a.pl.at_) = y at u1 u2 v2 ⊢
 obtain ⟨xr, xs⟩ := x
 obtain ⟨yr, ys⟩ := y
 dsimp only at u1 u2 v1 v2 ⊢
 subst u1
 refine ⟨rfl, fun q => absurd rfl q, fun _ => TwinS.after ?_ false⟩
 exact ⟨⟨rfl, u2, h.pl.len, h.pl.wd, h.pl.past⟩, .inl ⟨⟨v1, hbo.1.2⟩, ⟨v2, hbo.2.2⟩⟩, h.ahead, h.since, h.script, by dsimp only; rw [h.seen], h.back⟩

theorem Jdh (T : Tight p W lab I) {a b : Sp} (h : TwinS p W lab I a b) (hk : a.pl.at_ < p.cl) : J4q p W lab I (stepS p a) (stepS p b) := by
 by_cases h12 : (p.ins a.pl.at_).op = 9 ∨ (p.ins a.pl.at_).op = 12
 ·exact Jdg T h hk h12
 ·have hbo : Both W I a.pl b.pl := by
   rcases h.inv with q | ⟨_, q⟩
   ·exact q
   ·unfold Stop at q; omega
  by_cases e7 : (p.ins a.pl.at_).op = 7
  ·exact Jbw T h hk hbo e7
  by_cases e8 : (p.ins a.pl.at_).op = 8
  ·exact Jbu T h hk hbo e7 e8
  by_cases hp : 0 ≤ putI (p.ins a.pl.at_)
  ·exact Jc9 T h hk hbo e7 e8 h12 hp
  ·exact Jhq T h hk hbo e7 e8 h12 hp

theorem Ja3 (T : Tight p W lab I) : ∀ (f k : Nat) (a b : Sp), TwinS p W lab I a b → (runS p f k a).fin = (runS p f k b).fin ∧ (runS p f k a).val = (runS p f k b).val ∧ (runS p f k a).steps = (runS p f k b).steps ∧ (runS p f k a).seen = (runS p f k b).seen ∧ ∀ n, PubW p n → (runS p f k a).wd n = (runS p f k b).wd n
 | 0, k, a, b, h => ⟨rfl, rfl, rfl, h.seen, h.real.wd⟩
 | f + 1, k, a, b, h => by
  have h' := h.noneLeft p.cl
  have hat := h'.pl.at_
  rw [runS, runS]
  by_cases e : p.cl ≤ (a.noneLeft p.cl).pl.at_
  ·rw [if_pos e, if_pos (by rw [← hat]; exact e)]
   exact ⟨rfl, rfl, rfl, h'.seen, h'.real.wd⟩
  ·rw [if_neg e, if_neg (by rw [← hat]; exact e)]
   have st := Jdh T h' (by omega)
   have hf := st.fin
   cases q : (stepS p (a.noneLeft p.cl)).2.2 with
   | none =>
    rw [q] at hf
    rw [← hf]
    exact Ja3 T f (k + 1) _ _ (st.goes q)
   | some x =>
    rw [q] at hf
    rw [← hf]
    have se := st.ends (by rw [q]; simp)
    exact ⟨rfl, rfl, rfl, se.1, se.2.wd⟩

theorem J9o (T : Tight p W lab I) (h0 : I 0 (fun _ => 0)) (wd wd' : Nat → Int) (hw : ∀ n, PubW p n → wd n = wd' n) (hV : ∀ n, W (wd n)) (hV' : ∀ n, W (wd' n)) (script : List Int) (f : Nat) :
  (playS p wd script f).fin = (playS p wd' script f).fin ∧ (playS p wd script f).val = (playS p wd' script f).val ∧ (playS p wd script f).steps = (playS p wd' script f).steps ∧ (playS p wd script f).seen = (playS p wd' script f).seen ∧ ∀ n, PubW p n → (playS p wd script f).wd n = (playS p wd' script f).wd n :=
 Ja3 T f 0 _ _ ⟨⟨rfl, fun _ _ _ => rfl, fun _ => rfl, hw, fun _ _ => rfl⟩, .inl ⟨⟨h0, fun n => ⟨hV n, fun v q => (by cases q)⟩⟩, ⟨h0, fun n => ⟨hV' n, fun v q => (by cases q)⟩⟩⟩, rfl, rfl, rfl, rfl, fun q => by cases q⟩

def Still (h : Prg) : Prop := ∃ W lab I, (∀ x, B64 x → W x) ∧ Tight h W lab I ∧ I 0 (fun _ => 0)
end
theorem J3g {P : Program} {w : World} (base : Nat) (t ty e : TypeId) (i : TypeInfo) (size : Nat) (ht : P.underlying t = some (.slice e)) (hi : P.info? e = some i)
  (v : Value) (n : Nat) (xs : List Value) (hown : w.ownsRow base e size v n xs) (ad : Option Addr) (c : Nat) :
  (Builtin.append_ #[t, t] ty #[v, .slice ad 0 c]).run P w = .ok v w := by
 have hl : ∀ a : Addr, (loadCells a 0).run P w = .ok #[] w := fun a => rfl
 rcases hown.2 with ⟨rfl, rfl⟩ | ⟨g, cap, cur, rfl, _, _, hnc, _⟩
 ·cases ad <;> simp [Builtin.append_, run_underlying ht, sizeOf, typeInfo, hi, Builtin.lenOf, Builtin.firstCells, hl]
 ·cases ad <;> simp [Builtin.append_, run_underlying ht, sizeOf, typeInfo, hi, Builtin.lenOf, Builtin.firstCells, hnc, storeCells, hl]

theorem J4h {P : Program} {o : Oper} {a : Act} (w : World) {K : Act → World → Prop} {Q : Exit → Act → World → Prop} (s x : Operand) (t : TypeId)
  (ho : o.op = .call { callee := .builtin .append, args := #[s, x], argTypes := #[t, t] })
  (base : Nat) (e : TypeId) (i : TypeInfo) (z : Value) (size bytes : Nat) (ht : P.underlying t = some (.slice e)) (hi : P.info? e = some i) (hz : i.zero = some z)
  (hsize : i.size = size) (hby : i.bytes = bytes) (hzs : z.cells.size = size) (hsz : 0 < size)
  (v : Value) (n : Nat) (xs : List Value) (hs : a.eval s = v) (hown : w.ownsRow base e size v n xs)
  (ad : Option Addr) (m c : Nat) (news : List Value) (hx : a.eval x = .slice ad m c) (hl : news.length = m * size) (hnews : 0 < m → ∃ ad', ad = some ad' ∧ ∀ j u, news[j]? = some u → w.cell? (ad'.add j) = some u) (h1 : ∀ u ∈ news, u.oneCell' = true)
  (h63 : n + m ≤ maxLen) (hbytes : (n + m) * bytes ≤ 140737488355328) (hbase : base ≤ w.heap.size)
  (h : ∀ va cap w', w'.ownsRow base e size (.slice va (n + m) cap) (n + m) (xs ++ news) → w.grownBy w' v.ownBlock → (∀ b, (Value.slice va (n + m) cap).ownBlock = some b → v.ownBlock = some b ∨ b = w.heap.size) → (v.ownBlock ≠ none → va ≠ none) → K (a.put o.dst (.slice va (n + m) cap)) w') : o.wp P a w K Q := by
 by_cases hm : 0 < m
 ·obtain ⟨ad', rfl, hn2⟩ := hnews hm
  refine wp_append_lies w s x t ho base e i z size bytes ht hi hz hsize hby hzs hsz v n xs hs hown ad' m c news hx hl hn2 h1 hm h63 hbytes hbase w.heap.size rfl (fun g cap w' h2 h3 h4 h5 => h _ _ _ h2 h3 (fun b hb => ?_) (fun _ => by simp))
  have : b = g := by simpa [Value.ownBlock] using hb.symm
  subst this
  exact h4
 ·obtain rfl : m = 0 := by omega
  have hnl : news = [] := List.eq_nil_of_length_eq_zero (by rw [hl]; omega)
  subst hnl
  have hrun := J3g (P := P) (w := w) base t o.type e i size ht hi v n xs hown ad c
  obtain ⟨va, cap, rfl⟩ := J1y hown
  unfold Oper.wp
  simp [execOp, ho, resolve, invoke, builtin, hs, hx, hrun, Result.andThen]
  exact h va cap w (by simpa using hown) (J0l _ _) (fun b hb => .inl hb) (fun h1 h2 => h1 (by rw [h2]; rfl))
theorem J1k {P : Program} {ops : Array Oper} {rest : List Oper} {o : Oper} {a : Act} (w : World) {Q : Exit → Act → World → Prop} (hgd : o.guard = none) (s x : Operand) (t : TypeId)
  (ho : o.op = .call { callee := .builtin .append, args := #[s, x], argTypes := #[t, t] })
  (base : Nat) (e : TypeId) (i : TypeInfo) (z : Value) (size bytes : Nat) (ht : P.underlying t = some (.slice e)) (hi : P.info? e = some i) (hz : i.zero = some z)
  (hsize : i.size = size) (hby : i.bytes = bytes) (hzs : z.cells.size = size) (hsz : 0 < size)
  (v : Value) (n : Nat) (xs : List Value) (hs : a.eval s = v) (hown : w.ownsRow base e size v n xs)
  (ad : Option Addr) (m c : Nat) (news : List Value) (hx : a.eval x = .slice ad m c) (hl : news.length = m * size) (hnews : 0 < m → ∃ ad', ad = some ad' ∧ ∀ j u, news[j]? = some u → w.cell? (ad'.add j) = some u) (h1 : ∀ u ∈ news, u.oneCell' = true)
  (h63 : n + m ≤ maxLen) (hbytes : (n + m) * bytes ≤ 140737488355328) (hbase : base ≤ w.heap.size)
  (h : ∀ va cap w', w'.ownsRow base e size (.slice va (n + m) cap) (n + m) (xs ++ news) → w.grownBy w' v.ownBlock → (∀ b, (Value.slice va (n + m) cap).ownBlock = some b → v.ownBlock = some b ∨ b = w.heap.size) → (v.ownBlock ≠ none → va ≠ none) → wpList P ops Q rest (a.put o.dst (.slice va (n + m) cap)) w') : wpList P ops Q (o :: rest) a w :=
 wpList_plain hgd fun _ hK => J4h w s x t ho base e i z size bytes ht hi hz hsize hby hzs hsz v n xs hs hown ad m c news hx hl hnews h1 h63 hbytes hbase fun va cap w' h2 h3 h4 h5 => hK _ _ (h va cap w' h2 h3 h4 h5)

def ints (l : List Int) : List Value := l.map fun x => .int .i64 x
theorem J63 (l : List Int) : (ints l).length = l.length := by simp [ints]
theorem Jed (l : List Int) : ∀ u ∈ ints l, u.oneCell' = true := by
 intro u hu
 simp only [ints, List.mem_map] at hu
 obtain ⟨i, _, rfl⟩ := hu
 rfl

structure PV where
 rg : Nat
 rc : Nat
 wg : Nat
 wa : Option Addr
 wc : Nat
 pg : Nat
 pa : Option Addr
 pc : Nat
 P : Nat → Value
def PV.regs (a : PV) : Value := .slice (some ⟨a.rg, 0, none⟩) 10 a.rc
def PV.words (a : PV) (N : Nat) : Value := .slice a.wa N a.wc
def PV.past (a : PV) (N : Nat) : Value := .slice a.pa N a.pc

def InR (K l : Nat) : Prop := K < l ∧ l < K + 1000

structure PlL (w : World) (lo N K : Nat) (lab : Nat → Nat) (q : Pl) (a : PV) : Prop where
 lr : lab a.rg = K + 1
 regs : RegsR w a.rg q.r
 lw : 0 < N → lab a.wg = K + 2
 wa : 0 < N → a.wa = some ⟨a.wg, 0, none⟩
 words : ∀ j, j < N → Wr w a.wg j (.int .i64 (q.wd j))
 lp : 0 < N → lab a.pg = K + 3
 pa : 0 < N → a.pa = some ⟨a.pg, 0, none⟩
 past : ∀ j, j < N → Wr w a.pg j (a.P j)
 rows : ∀ j, j < N → w.ownsRow lo 2 1 (a.P j) (q.past j).length (ints (q.past j))
 lrow : ∀ j, j < N → ∀ b, (a.P j).ownBlock = some b → lab b = K + 10 + j
 cap : N ≤ a.wc

section
variable {w w' : World} {lo N K : Nat} {lab lab' : Nat → Nat} {q : Pl} {a : PV}

theorem PlL.labs (h : PlL w lo N K lab q a) (hl : ∀ b, lab b ≠ 0 → lab' b = lab b) : PlL w lo N K lab' q a :=
 ⟨by rw [hl _ (by rw [h.lr]; omega)]; exact h.lr, h.regs, fun hN => by rw [hl _ (by rw [h.lw hN]; omega)]; exact h.lw hN, h.wa, h.words, fun hN => by rw [hl _ (by rw [h.lp hN]; omega)]; exact h.lp hN, h.pa, h.past, h.rows, fun j hj b hb => by rw [hl _ (by rw [h.lrow j hj b hb]; omega)]; exact h.lrow j hj b hb, h.cap⟩
theorem PlL.kept (h : PlL w lo N K lab q a) (hN : N ≤ 384) {row : Option Nat} (hg : w.grownBy w' row) (hr : ∀ b, row = some b → ¬ InR K (lab b)) : PlL w' lo N K lab q a := by
 have ne : ∀ b, InR K (lab b) → some b ≠ row := fun b hb e => hr b e.symm hb
 refine ⟨h.lr, h.regs.kept hg (ne _ (by rw [h.lr]; unfold InR; omega)), h.lw, h.wa, fun j hj => (h.words j hj).kept hg (ne _ (by rw [h.lw (by omega)]; unfold InR; omega)), h.lp, h.pa, fun j hj => (h.past j hj).kept hg (ne _ (by rw [h.lp (by omega)]; unfold InR; omega)), fun j hj => ?_, h.lrow, h.cap⟩
 refine World.ownsRow.kept (h.rows j hj) hg ?_
 cases hv : (a.P j).ownBlock with
 | none => left; rfl
 | some b => right; exact ne b (by rw [h.lrow j hj b hv]; unfold InR; omega)
theorem PlL.go (h : PlL w lo N K lab q a) (n : Nat) : PlL w lo N K lab { q with at_ := n } a := ⟨h.lr, h.regs, h.lw, h.wa, h.words, h.lp, h.pa, h.past, h.rows, h.lrow, h.cap⟩
theorem PlL.base (h : PlL w lo N K lab q a) {lo' : Nat} (hl : lo' ≤ lo) : PlL w lo' N K lab q a :=
 ⟨h.lr, h.regs, h.lw, h.wa, h.words, h.lp, h.pa, h.past, fun j hj => ⟨(h.rows j hj).1, by
  rcases (h.rows j hj).2 with h1 | ⟨g, cap, cur, h1, h2, h3⟩
  ·exact .inl h1
  ·exact .inr ⟨g, cap, cur, h1, by omega, h3⟩⟩, h.lrow, h.cap⟩
theorem PlL.regd (h : PlL w lo N K lab q a) (hN : N ≤ 384) (r : Nat → Int) (hg : w.grownBy w' (some a.rg)) (hr : RegsR w' a.rg r) : PlL w' lo N K lab { q with r := r } a := by
 have ne : ∀ b, lab b ≠ K + 1 → some b ≠ some a.rg := fun b hb e => hb (by rw [Option.some.inj e]; exact h.lr)
 refine ⟨h.lr, hr, h.lw, h.wa, fun j hj => (h.words j hj).kept hg (ne _ (by rw [h.lw (by omega)]; omega)), h.lp, h.pa, fun j hj => (h.past j hj).kept hg (ne _ (by rw [h.lp (by omega)]; omega)), fun j hj => ?_, h.lrow, h.cap⟩
 refine World.ownsRow.kept (h.rows j hj) hg ?_
 cases hv : (a.P j).ownBlock with
 | none => left; rfl
 | some b => right; exact ne b (by rw [h.lrow j hj b hv]; omega)
theorem PlL.reg (h : PlL w lo N K lab q a) (hN : N ≤ 384) (k v : Int) : PlL (w.setCell ⟨a.rg, k.toNat, none⟩ (.int .i64 v)) lo N K lab { q with r := setR q.r k v } a :=
 h.regd hN _ (J0q w a.rg _ _) (h.regs.set k v)
theorem PlL.word (h : PlL w lo N K lab q a) (hN : N ≤ 384) (n : Nat) (hn : n < N) (v : Int) : PlL (w.setCell ⟨a.wg, n, none⟩ (.int .i64 v)) lo N K lab { q with wd := setF q.wd n v } a := by
 have hg := J0q w a.wg n (.int .i64 v)
 have ne : ∀ b, lab b ≠ K + 2 → some b ≠ some a.wg := fun b hb e => hb (by rw [Option.some.inj e]; exact h.lw (by omega))
 refine ⟨h.lr, h.regs.kept hg (ne _ (by rw [h.lr]; omega)), h.lw, h.wa, fun j hj => ?_, h.lp, h.pa, fun j hj => (h.past j hj).kept hg (ne _ (by rw [h.lp (by omega)]; omega)), fun j hj => ?_, h.lrow, h.cap⟩
 ·dsimp only [setF]
  by_cases e : j = n
  ·subst e; rw [if_pos rfl]; exact (h.words j hj).same _
  ·rw [if_neg e]; exact (h.words j hj).other _ _ _ (by omega)
 ·refine World.ownsRow.kept (h.rows j hj) hg ?_
  cases hv : (a.P j).ownBlock with
  | none => left; rfl
  | some b => right; exact ne b (by rw [h.lrow j hj b hv]; omega)
theorem PlL.push (h : PlL w lo N K lab q a) (hN : N ≤ 384) (n : Nat) (hn : n < N) (x : Int) (v : Value) (hg : w.grownBy w' (a.P n).ownBlock) (own : w'.ownsRow lo 2 1 v ((q.past n).length + 1) (ints (q.past n) ++ [.int .i64 x]))
  (hl : ∀ b, lab b ≠ 0 → lab' b = lab b) (hv : ∀ b, v.ownBlock = some b → lab' b = K + 10 + n) :
  PlL (w'.setCell ⟨a.pg, n, none⟩ v) lo N K lab' { q with past := setF q.past n (q.past n ++ [x]) } { a with P := setF a.P n v } := by
 have h' := h.labs hl
 have ne : ∀ b, lab b ≠ K + 10 + n → some b ≠ (a.P n).ownBlock := fun b hb e => hb (h.lrow n hn b e.symm)
 have hg2 := J0q w' a.pg n v
 have lp := h'.lp (by omega)
 have lw := h.lw (by omega)
 have lpo := h.lp (by omega)
 have ne2 : ∀ b, lab' b ≠ K + 3 → some b ≠ some a.pg := fun b hb e => hb (by rw [Option.some.inj e]; exact lp)
 refine ⟨h'.lr, (h.regs.kept hg (ne _ (by rw [h.lr]; omega))).kept hg2 (ne2 _ (by rw [h'.lr]; omega)), h'.lw, h.wa, fun j hj => ((h.words j hj).kept hg (ne _ (by rw [lw]; omega))).kept hg2 (ne2 _ (by rw [h'.lw (by omega)]; omega)), h'.lp, h.pa, fun j hj => ?_, fun j hj => ?_, fun j hj b hb => ?_, h.cap⟩
 ·dsimp only [setF]
  by_cases e : j = n
  ·subst e; rw [if_pos rfl]; exact ((h.past j hj).kept hg (ne _ (by rw [lpo]; omega))).same _
  ·rw [if_neg e]; exact ((h.past j hj).kept hg (ne _ (by rw [lpo]; omega))).other _ _ _ (by omega)
 ·dsimp only [setF]
  by_cases e : j = n
  ·subst e
   rw [if_pos rfl, if_pos rfl, List.length_append]
   have e1 : ints (q.past j ++ [x]) = ints (q.past j) ++ [.int .i64 x] := by simp [ints]
   rw [e1]
   refine World.ownsRow.kept own hg2 ?_
   cases hvb : v.ownBlock with
   | none => left; rfl
   | some b => right; exact ne2 b (by rw [hv b hvb]; omega)
  ·rw [if_neg e, if_neg e]
   refine World.ownsRow.kept (World.ownsRow.kept (h.rows j hj) hg ?_) hg2 ?_
   ·cases hb : (a.P j).ownBlock with
    | none => left; rfl
    | some b => right; exact ne b (by rw [h.lrow j hj b hb]; omega)
   ·cases hb : (a.P j).ownBlock with
    | none => left; rfl
    | some b => right; exact ne2 b (by rw [h'.lrow j hj b hb]; omega)
 ·dsimp only [setF] at hb
  by_cases e : j = n
  ·subst e; rw [if_pos rfl] at hb; exact hv b hb
  ·rw [if_neg e] at hb; exact h'.lrow j hj b hb
end
theorem Jeh (len : Nat → Nat) {c c' i i' : Nat} (hi : i < len c) (hi' : i' < len c') (h : baseN len c + i = baseN len c' + i') : c = c' ∧ i = i' := by
 rcases Nat.lt_trichotomy c c' with h1 | h1 | h1
 ·have := J3u len (c + 1) c' h1
  simp only [baseN] at this
  omega
 ·subst h1; exact ⟨rfl, by omega⟩
 ·have := J3u len (c' + 1) c h1
  simp only [baseN] at this
  omega
theorem Jbg {s : Sp} (h : s.ahead = false) (over : Bool) : s.after over = s := by unfold Sp.after; rw [if_neg (by rw [h]; decide)]
theorem J4g {s : Sp} (h : s.ahead = false) (cl : Nat) : s.noneLeft cl = s := by unfold Sp.noneLeft; rw [if_neg (by rw [h]; simp)]
end
end Go.Proofs.Ytnppcfkmiddaeab
