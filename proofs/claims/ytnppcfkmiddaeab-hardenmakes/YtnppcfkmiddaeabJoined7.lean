/-
  The texts CkCheck, RefSame, R8, HdLaw, HdSame, HdDoes, HdLike, HdMake, HdDone, one behind the other, with what is used of them.
-/
import Derived.Test.YtnppcfkmiddaeabJoined6
import Derived.Test.YtnppcfkmiddaeabRows
import Derived.WalkKit
import Derived.Deep.LoopGhost
import Derived.Test.YtnppcfkmiddaeabJoined0
import Derived.Test.YtnppcfkmiddaeabJoined4
namespace Go.Proofs.Ytnppcfkmiddaeab
section
open Go.RowKit
set_option linter.unusedSimpArgs false
set_option linter.unusedVariables false
set_option maxRecDepth 8000
/-- A lead is to where no instruction is just if the instruction leads there. -/
theorem out_iff {p : Prg} {at_ : Nat} (hi : InsOk p.rl p.log p.cl 8 (p.ins at_)) (s : KS) : (∃ (i : Nat) (x : Nat × KS), (leadsK p at_ s)[i]? = some x ∧ p.cl ≤ x.1) ↔ outK p at_ = true := by
  unfold outK
  have hI := hi
  unfold InsOk Plc at hI
  constructor
  · rintro ⟨i, x, hx, hc⟩
    have hm := List.mem_of_getElem? hx
    unfold leadsK at hm
    by_cases h7 : (p.ins at_).op = 7
    · rw [if_pos h7] at hm
      simp [h7] at hI
      simp at hm; subst hm; dsimp only at hc; omega
    rw [if_neg h7] at hm
    by_cases h9 : (p.ins at_).op = 9
    · rw [if_pos h9] at hm; simp at hm
    rw [if_neg h9] at hm
    by_cases h8 : (p.ins at_).op = 8
    · rw [if_pos h8] at hm
      simp [h8] at hI
      simp at hm
      rcases hm with rfl | rfl
      · dsimp only at hc; omega
      · simp [h7, h9]; exact hc
    · rw [if_neg h8] at hm
      simp at hm; subst hm
      simp [h7, h9]; exact hc
  · intro h
    simp at h
    obtain ⟨h7, h9, hc⟩ := h
    unfold leadsK
    rw [if_neg h7, if_neg h9]
    by_cases h8 : (p.ins at_).op = 8
    · rw [if_pos h8]; exact ⟨1, _, rfl, hc⟩
    · rw [if_neg h8]; exact ⟨0, _, rfl, hc⟩

/-- A fault, as a value. -/
abbrev flt (c a : Int) : Value := .agg #[.int .i64 c, .int .i64 a]

theorem check6_form (rv cv : Value) (hrv : ∃ a n c, rv = .slice a n c) (hcv : ∃ a n c, cv = .slice a n c) (w : World) (cm : ∀ w1 : World, More w w1 → Calls Try.prog 16 #[.agg #[rv, cv]] w1 fun e w' => e = .returned (.bool false) ∧ More w1 w') :
    Calls Try.prog 14 #[.agg #[rv, cv]] w fun e w' => e = .returned (flt 2 0) ∧ More w w' := by
  obtain ⟨a, n, c, rfl⟩ := hrv
  obtain ⟨a2, n2, c2, rfl⟩ := hcv
  unfold flt
  go_enter Try.func14, Try.ntmps14
  go_wp2_with (fail)
  refine (cm _ (((More.refl _).alloc _ _).alloc _ _)).mono ?_
  rintro e w1 ⟨rfl, m1⟩
  have Hres : Hid (Blk w1 (w.heap.size + 1) #[.int .i64 0, .int .i64 0] 33) := (by simpa using Blk.last (w.alloc (.cells #[.slice a n c, .slice a2 n2 c2] 30)) #[.int .i64 0, .int .i64 0] 33 : Blk ((w.alloc (.cells #[.slice a n c, .slice a2 n2 c2] 30)).alloc (.cells #[.int .i64 0, .int .i64 0] 33)) (w.heap.size + 1) #[.int .i64 0, .int .i64 0] 33).more m1
  have Hm1 : Hid (More w w1) := (((More.refl _).alloc _ _).alloc _ _).trans m1
  clear m1
  have t0 := Hres.out.cell (j := 0) (v := .int .i64 0) rfl
  have t1 := Hres.out.cell (j := 1) (v := .int .i64 0) rfl
  have u0 := Hres.out.frozen 0
  have u1 := Hres.out.frozen 1
  go_wp2
  exact bodyPost_ret (by simp [results, Try.results14, go_sem, *]) rfl ⟨rfl, (Hm1.out.setCell (by dsimp only; omega) _).setCell (by dsimp only; omega) _⟩

set_option maxHeartbeats 8000000 in
theorem check6_ok (p : Prg) (lo : Loc) (w : World) (hp : PIn w p lo) (hok : p.Ok 200 8) (hn : ∀ i, i < p.cl → -9223372036854775808 ≤ (p.ins i).n ∧ (p.ins i).n ≤ 9223372036854775807)
    (cm : ∀ w1 : World, More w w1 → Calls Try.prog 16 #[.agg #[.slice lo.ra p.rl lo.rc, .slice lo.ca p.cl lo.cc]] w1 fun e w' => e = .returned (.bool true) ∧ More w1 w') :
    Calls Try.prog 14 #[.agg #[.slice lo.ra p.rl lo.rc, .slice lo.ca p.cl lo.cc]] w fun e w' => ∃ l, Known p l ∧ e = .returned (flt (checkK p l).1 (checkK p l).2) ∧ More w w' := by
  suffices hP : ∀ P : Ending → World → Prop, (∀ l, Known p l → ∀ w', More w w' → P (.returned (flt (checkK p l).1 (checkK p l).2)) w') → Calls Try.prog 14 #[.agg #[.slice lo.ra p.rl lo.rc, .slice lo.ca p.cl lo.cc]] w P from hP _ (fun l h1 w' h2 => ⟨l, h1, rfl, h2⟩)
  intro P hP0
  have HP : Hid (∀ l, Known p l → ∀ w', More w w' → P (.returned (flt (checkK p l).1 (checkK p l).2)) w') := hP0
  have H : Hid (PIn w p lo ∧ p.Ok 200 8 ∧ ∀ i, i < p.cl → -9223372036854775808 ≤ (p.ins i).n ∧ (p.ins i).n ≤ 9223372036854775807) := ⟨hp, hok, hn⟩
  have h1 : 1 ≤ p.cl := hok.2.1
  have h2 : p.cl ≤ 200 := hok.2.2.1
  have hi1 : (1 : Int) ≤ p.cl := by omega
  have hi2 : (p.cl : Int) ≤ 200 := by omega
  clear hP0 hp hok hn
  have HS0 : Hid (∀ w1 : World, More w w1 → Calls Try.prog 33 #[.agg #[.slice lo.ra p.rl lo.rc, .slice lo.ca p.cl lo.cc]] w1 fun e w' => ∃ lb l, e = .returned (.slice (some ⟨lb, 0, none⟩) p.cl p.cl) ∧ VAt w' lb p.cl l ∧ Known p l ∧ More w1 w') := fun w1 m => states_calls p lo w1 (H.out.1.more m) H.out.2.1 H.out.2.2
  obtain ⟨cl, hcl⟩ : ∃ cl, p.cl = cl := ⟨_, rfl⟩
  have Hcl : Hid (p.cl = cl) := hcl
  rw [hcl] at h1 h2 hi1 hi2 cm ⊢
  have HSt : Hid (∀ w1 : World, More w w1 → Calls Try.prog 33 #[.agg #[.slice lo.ra p.rl lo.rc, .slice lo.ca cl lo.cc]] w1 fun e w' => ∃ lb l, e = .returned (.slice (some ⟨lb, 0, none⟩) cl cl) ∧ VAt w' lb p.cl l ∧ Known p l ∧ More w1 w') := by
    have := HS0.out
    rw [hcl] at this
    rw [hcl]; exact this
  have Hcm : Hid (∀ w1 : World, More w w1 → Calls Try.prog 16 #[.agg #[.slice lo.ra p.rl lo.rc, .slice lo.ca cl lo.cc]] w1 fun e w' => e = .returned (.bool true) ∧ More w1 w') := cm
  clear hcl HS0 cm
  obtain ⟨ra, rb, ro, rc, ca, cb, co, cc⟩ := lo
  dsimp only at HSt Hcm ⊢
  obtain rfl : ca = some ⟨cb, co, none⟩ := H.out.1.hc (by have := Hcl.out; omega)
  obtain ⟨W0, HW0⟩ : ∃ W0 : World, Hid (W0 = (w.alloc (.cells #[.slice ra p.rl rc, .slice (some ⟨cb, co, none⟩) cl cc] 30)).alloc (.cells #[.int .i64 0, .int .i64 0] 33)) := ⟨_, rfl⟩
  have HM0 : Hid (More w W0) := HW0.out ▸ ((More.refl _).alloc _ _).alloc _ _
  have HBX : Hid (Blk W0 w.heap.size #[.slice ra p.rl rc, .slice (some ⟨cb, co, none⟩) cl cc] 30) := HW0.out ▸ (Blk.last _ _ _).more ((More.refl _).alloc _ _)
  have HRES : Hid (Blk W0 (w.heap.size + 1) #[.int .i64 0, .int .i64 0] 33) := by
    show Blk _ _ _ _
    rw [HW0.out]
    simpa using Blk.last (w.alloc (.cells #[.slice ra p.rl rc, .slice (some ⟨cb, co, none⟩) cl cc] 30)) #[.int .i64 0, .int .i64 0] 33
  go_enter Try.func14, Try.ntmps14
  go_wp2_with (fail)
  rw [← HW0.out]
  refine (Hcm.out _ HM0.out).mono ?_
  rintro e w1 ⟨rfl, m1⟩
  have HM1 : Hid (More W0 w1) := m1
  clear m1
  have p0 : w1.cell? ⟨w.heap.size, 0, none⟩ = some (.slice ra p.rl rc) := (HBX.out.more HM1.out).cell rfl
  have p1 : w1.cell? ⟨w.heap.size, 1, none⟩ = some (.slice (some ⟨cb, co, none⟩) cl cc) := (HBX.out.more HM1.out).cell rfl
  go_wp2_with (fail)
  refine (HSt.out _ (HM0.out.trans HM1.out)).mono ?_
  rintro e w2 ⟨lb, L, rfl, hv, hkn, m2⟩
  have HV2 : Hid (VAt w2 lb p.cl L ∧ Known p L) := ⟨hv, hkn⟩
  have HM2 : Hid (More W0 w2) := HM1.out.trans m2
  clear m2 hv hkn p0 p1
  go_wp2_with (fail)
  go_loopg [4] cl (fun g iv wr => ∃ k : Nat, k + g = cl ∧ iv = .int .i64 k ∧ Hid (More w2 wr ∧ checkK p L = scanK p L g k))
  case atStart => exact ⟨0, by omega, rfl, More.refl _, by unfold checkK; rw [Hcl.out]⟩
  case round =>
    obtain ⟨k, hkg, rfl, HR⟩ := hrel
    obtain ⟨wm, rfl⟩ : ∃ wm, wm = wr := ⟨wr, rfl⟩
    have HMm : Hid (More W0 wm) := HM2.out.trans HR.out.1
    have HVm : Hid (VAt wm lb p.cl L) := HV2.out.1.more HR.out.1 (by have := Hcl.out; omega)
    have Hsc : Hid (checkK p L = scanK p L gk k) := HR.out.2
    have HMw : Hid (More w2 wm) := HR.out.1
    clear HR
    cases gk with
    | zero =>
      have He : Hid (checkK p L = (0, 0)) := Hsc.out
      clear Hsc
      have t0 := (HRES.out.more HMm.out).cell (j := 0) (v := .int .i64 0) rfl
      have t1 := (HRES.out.more HMm.out).cell (j := 1) (v := .int .i64 0) rfl
      have u0 := (HRES.out.more HMm.out).frozen 0
      have u1 := (HRES.out.more HMm.out).frozen 1
      go_wp2
      refine bodyPost_ret (v := flt 0 0) (by simp [flt, results, Try.results14, go_sem, *]) rfl ?_
      have hE := HP.out L HV2.out.2 _ (((HM0.out.trans HMm.out).setCell (a := ⟨w.heap.size + 1, 0, none⟩) (by dsimp only; omega) (.int .i64 0)).setCell (a := ⟨w.heap.size + 1, 1, none⟩) (by dsimp only; omega) (.int .i64 0))
      rw [He.out] at hE
      exact hE
    | succ g =>
      have hk : k < cl := by omega
      have hki : (k : Int) < cl := by omega
      have hca := HVm.out.at_ k (by rw [Hcl.out]; exact hk)
      cases eL : L k with
      | none =>
        rw [eL] at hca
        have c0 := hca.1
        have Hn2 : Hid (checkK p L = scanK p L g (k + 1)) := by show _ = _; rw [Hsc.out]; simp only [scanK, eL]
        clear hca eL Hsc
        go_wp2
        go_roundg g
        case measure => omega
        case rel => exact ⟨k + 1, by omega, by first | rfl | simp, HMw.out, Hn2.out⟩
      | some s =>
        rw [eL] at hca
        obtain ⟨gs, cs, c0, c1, hks, hgne⟩ := hca
        have Hks : Hid (KRow wm gs s) := hks
        have Hpk : Hid (k < p.cl) := by show _ < _; rw [Hcl.out]; exact hk
        have Hi : Hid (InsOk p.rl p.log p.cl 8 (p.ins k)) := H.out.2.1.2.2.2 k Hpk.out
        have Hn2 : Hid (checkK p L = if faultK p k s = 0 then scanK p L g (k + 1) else (faultK p k s, (k : Int))) := by show _ = _; rw [Hsc.out]; simp only [scanK, eL]
        have Hout : Hid ((∃ (i : Nat) (x : Nat × KS), (leadsK p k s)[i]? = some x ∧ p.cl ≤ x.1) ↔ outK p k = true) := out_iff Hi.out s
        clear eL hks hgne Hsc
        have q := (H.out.1.more (HM0.out.trans HMm.out)).code k Hpk.out
        obtain ⟨q0, q1, q2, q3, q4⟩ := q
        obtain ⟨i, hi⟩ : ∃ i, p.ins k = i := ⟨_, rfl⟩
        rw [hi] at q0 q1 q2 q3 q4
        have HI : Hid (p.ins k = i) := hi
        clear hi
        obtain ⟨op, a, b, ic, n⟩ := i
        dsimp only at q0 q1 q2 q3 q4
        have p0 : wm.cell? ⟨w.heap.size, 0, none⟩ = some (.slice ra p.rl rc) := (HBX.out.more HMm.out).cell rfl
        have p1 : wm.cell? ⟨w.heap.size, 1, none⟩ = some (.slice (some ⟨cb, co, none⟩) cl cc) := (HBX.out.more HMm.out).cell rfl
        obtain ⟨W8, HW8⟩ : ∃ W8 : World, Hid (W8 = wm.alloc (.cells #[.int .i64 op, .int .i64 a, .int .i64 b, .int .i64 ic, .int .i64 n] 67)) := ⟨_, rfl⟩
        have HM8 : Hid (More wm W8) := HW8.out ▸ (More.refl _).alloc _ _
        have HB8 : Hid (Blk W8 wm.heap.size #[.int .i64 op, .int .i64 a, .int .i64 b, .int .i64 ic, .int .i64 n] 67) := HW8.out ▸ Blk.last _ _ _
        obtain ⟨S, HS⟩ : ∃ S : World → Prop, Hid (∀ w', S w' ↔ More W8 w') := ⟨_, fun _ => Iff.rfl⟩
        have HSd : S W8.drew := (HS.out _).2 (More.refl _).drew
        have hne : Nonempty { w' // S w' } := ⟨⟨_, HSd⟩⟩
        have k0 : ∀ i : { w' // S w' }, i.val.cell? ⟨lb, k * 2, none⟩ = some (.bool true) := fun i => (HM8.out.trans ((HS.out _).1 i.property)).cell c0
        have k1 : ∀ i : { w' // S w' }, i.val.cell? ⟨lb, k * 2 + 1, none⟩ = some (.slice (some ⟨gs, 0, none⟩) 8 cs) := fun i => (HM8.out.trans ((HS.out _).1 i.property)).cell c1
        have k2 : ∀ i : { w' // S w' }, i.val.cell? ⟨w.heap.size, 0, none⟩ = some (.slice ra p.rl rc) := fun i => (HM8.out.trans ((HS.out _).1 i.property)).cell p0
        have k3 : ∀ i : { w' // S w' }, i.val.cell? ⟨w.heap.size, 1, none⟩ = some (.slice (some ⟨cb, co, none⟩) cl cc) := fun i => (HM8.out.trans ((HS.out _).1 i.property)).cell p1
        have Hld : Hid (∀ w1 : World, More wm w1 → Calls Try.prog 34 #[.agg #[.slice ra p.rl rc, .slice (some ⟨cb, co, none⟩) cl cc], .int .i64 k, st true gs cs] w1 fun e w' => ∃ v, e = .returned v ∧ LdAt w' w1.heap.size v (leadsK p k s) ∧ More w1 w') := fun w1 m => by
          have := leads_calls p ⟨ra, rb, ro, rc, some ⟨cb, co, none⟩, cb, co, cc⟩ k gs cs s w1 (H.out.1.more ((HM0.out.trans HMm.out).trans m)) Hpk.out H.out.2.1.2.2.1 Hi.out (H.out.2.2 k Hpk.out).1 (H.out.2.2 k Hpk.out).2 (Hks.out.more m)
          dsimp only at this
          rw [Hcl.out] at this
          exact this
        have zb := cell_block p0
        have zc := cell_block q0
        have zl := cell_block c0
        dsimp only at zb zc zl
        go_wp2_with (fail)
        rw [← HW8.out]
        refine wp_region_ord (S := S) [(0, true), (1, true), (2, true), (3, true), (4, true), (5, true), (6, false), (7, true)] (by kernel_rfl) (by kernel_rfl) (by kernel_rfl) HSd ?_
        iterate 6 (refine wpOrd_take rfl (by kernel_rfl) (fun K hK => ?_); go_simp; refine hK _ _ ?_; clear hK K)
        refine wpOrd_busy rfl (by kernel_rfl) (fun K hK => ?_); go_simp
        refine (Hld.out _ (HM8.out.drew)).mono ?_
        rintro e w3 ⟨lv, rfl, hlv, m3⟩
        have HM3 : Hid (More W8 w3) := (More.refl _).drew.trans m3
        have HS3 : S w3 := (HS.out _).2 HM3.out
        obtain ⟨ls, hls⟩ : ∃ ls, leadsK p k s = ls := ⟨_, rfl⟩
        rw [hls] at hlv
        have Hls : Hid ((∃ (i : Nat) (x : Nat × KS), ls[i]? = some x ∧ p.cl ≤ x.1) ↔ outK p k = true) := by have := Hout.out; rw [hls] at this; exact this
        clear hls Hout
        obtain ⟨la, lbk, lcap, rfl, hla, _, hl2, hcells⟩ := hlv
        obtain ⟨nl, hnl⟩ : ∃ nl, ls.length = nl := ⟨_, rfl⟩
        rw [hnl] at hla hl2 ⊢
        have Hce : Hid (∀ j x, ls[j]? = some x → w3.cell? ⟨lbk, j * 3, none⟩ = some (.int .i64 (x.1 : Int))) := fun j x hx => by obtain ⟨_, _, q, _⟩ := hcells j x hx; exact q
        have Hnl : Hid (ls.length = nl ∧ (0 < nl → la = some ⟨lbk, 0, none⟩)) := ⟨hnl, hla⟩
        clear m3 hnl hla hcells
        go_simp
        refine hK _ _ HS3 ?_; clear hK K
        (refine wpOrd_take rfl (by kernel_rfl) (fun K hK => ?_); go_simp; refine hK _ _ ?_; clear hK K)
        refine wpOrd_done ?_
        clear k0 k1 k2 k3 hne HSd HS3 q0 q1 q2 q3 q4 zb zc zl
        go_wp2_with (fail)
        go_loopg [7, 8] nl (fun g3 bv iv wr3 => ∃ (j : Nat) (bb : Bool), j + g3 = nl ∧ iv = .int .i64 j ∧ bv = .bool bb ∧ wr3 = w3 ∧ Hid (bb = true ↔ ∃ (i : Nat) (x : Nat × KS), i < j ∧ ls[i]? = some x ∧ p.cl ≤ x.1))
        case atStart => exact ⟨0, false, by omega, rfl, rfl, rfl, ⟨fun h => absurd h (by simp), fun ⟨i, x, h, _⟩ => absurd h (Nat.not_lt_zero _)⟩⟩
        case round =>
          obtain ⟨j, bb, hjg, rfl, rfl, rfl, HJ⟩ := hrel
          obtain ⟨w3, rfl⟩ : ∃ w3, w3 = wr := ⟨wr, rfl⟩
          cases gk with
          | succ g3 =>
            have hj : j < nl := by omega
            have hji : (j : Int) < nl := by omega
            have hnli : (nl : Int) ≤ 2 := by omega
            obtain ⟨x, hx⟩ : ∃ x, ls[j]? = some x := ⟨ls[j]'(by rw [Hnl.out.1]; exact hj), List.getElem?_eq_getElem _⟩
            obtain rfl : la = some ⟨lbk, 0, none⟩ := Hnl.out.2 (by omega)
            have l0 := Hce.out j x hx
            have Hx : Hid (ls[j]? = some x) := hx
            obtain ⟨xto, xs⟩ := x
            dsimp only at l0
            clear hx
            obtain ⟨dd, hdd⟩ : ∃ d, decide (cl ≤ xto) = d := ⟨_, rfl⟩
            have Hnx : Hid ((bb || dd) = true ↔ ∃ (i : Nat) (x : Nat × KS), i < j + 1 ∧ ls[i]? = some x ∧ p.cl ≤ x.1) := by
              rw [Bool.or_eq_true, HJ.out]
              constructor
              · rintro (⟨i, x, h1, h2, h3⟩ | h)
                · exact ⟨i, x, by omega, h2, h3⟩
                · refine ⟨j, _, by omega, Hx.out, ?_⟩
                  rw [← hdd, decide_eq_true_eq] at h
                  have := Hcl.out
                  dsimp only; omega
              · rintro ⟨i, x, h1, h2, h3⟩
                by_cases e : i = j
                · subst e
                  rw [Hx.out] at h2
                  cases h2
                  right
                  rw [← hdd, decide_eq_true_eq]
                  have := Hcl.out
                  dsimp only at h3; omega
                · exact .inl ⟨i, x, by omega, h2, h3⟩
            clear HJ
            cases bb
            · simp only [Bool.false_or] at Hnx
              go_wp2
              go_roundg g3
              case measure => omega
              case rel => exact ⟨j + 1, dd, by omega, by first | rfl | simp, rfl, rfl, Hnx.out⟩
            · simp only [Bool.true_or] at Hnx
              clear hdd
              go_wp2
              go_roundg g3
              case measure => omega
              case rel => exact ⟨j + 1, true, by omega, by first | rfl | simp, rfl, rfl, ⟨fun _ => Hnx.out.1 trivial, fun _ => rfl⟩⟩
          | zero =>
            have HO : Hid (bb = outK p k) := by
              show _ = _
              rw [Bool.eq_iff_iff, HJ.out, ← Hls.out]
              constructor
              · rintro ⟨i, x, _, h2, h3⟩; exact ⟨i, x, h2, h3⟩
              · rintro ⟨i, x, h2, h3⟩
                have : i < ls.length := (List.getElem?_eq_some_iff.1 h2).1
                exact ⟨i, x, by rw [Hnl.out.1] at this; omega, h2, h3⟩
            clear HJ
            obtain ⟨sc, hsc⟩ : ∃ x, secretK p (p.ins k) s = x := ⟨_, rfl⟩
            have Hsc2 : Hid (secretK p (p.ins k) s = sc) := hsc
            have Csec : Hid (∀ w1 : World, More wm w1 → Calls Try.prog 36 #[.agg #[.slice ra p.rl rc, .slice (some ⟨cb, co, none⟩) cl cc], .agg #[.int .i64 op, .int .i64 a, .int .i64 b, .int .i64 ic, .int .i64 n], .slice (some ⟨gs, 0, none⟩) 8 cs] w1 fun e w' => e = .returned (.bool sc) ∧ More w1 w') := fun w1 m => by
              have := secret_calls p ⟨ra, rb, ro, rc, some ⟨cb, co, none⟩, cb, co, cc⟩ k gs cs s w1 (H.out.1.more ((HM0.out.trans HMm.out).trans m)) Hi.out (Hks.out.more m)
              rw [hsc, HI.out] at this
              dsimp only at this
              rw [Hcl.out] at this
              exact this
            clear hsc
            have HB3 : Hid (Blk w3 wm.heap.size #[.int .i64 op, .int .i64 a, .int .i64 b, .int .i64 ic, .int .i64 n] 67) := HB8.out.more HM3.out
            have i0 : w3.cell? ⟨wm.heap.size, 0, none⟩ = some (.int .i64 op) := HB3.out.cell rfl
            have Hrf : Hid (More w3 w3) := More.refl _
            by_cases hop : op = 3 ∨ op = 4
            · -- a word at an index
              rcases hop with rfl | rfl
              all_goals
                have hI := Hi.out
                unfold InsOk Reg Rgn at hI
                rw [HI.out] at hI
                simp at hI
                obtain rfl : ra = some ⟨rb, ro, none⟩ := H.out.1.hr (by omega)
                obtain ⟨lg, hlg⟩ : ∃ x, p.log ic.toNat = x := ⟨_, rfl⟩
                have Hlg : Hid (∀ w' : World, More wm w' → w'.cell? ⟨rb, ro + ic.toNat * 2, none⟩ = some (.int .i64 lg)) := fun w' m => by
                  have := ((H.out.1.more ((HM0.out.trans HMm.out).trans m)).regs ic.toNat (by omega)).1
                  rw [hlg] at this; exact this
                obtain ⟨xb, hxb⟩ : ∃ x, s b.toNat = x := ⟨_, rfl⟩
                obtain ⟨v, hv⟩ : ∃ v, Kn.index xb n = v := ⟨_, rfl⟩
                have hnn := H.out.2.2 k Hpk.out
                rw [HI.out] at hnn
                dsimp only at hnn
                have Cix : Hid (∀ w : World, Calls Try.prog 35 #[kn xb.b xb.s, .int .i64 n] w fun e w' => e = .returned (kn v.b v.s) ∧ More w w') := fun w => hv ▸ index_calls xb n hnn.1 hnn.2 w
                have HbK : Hid (boundK p (p.ins k) s = (decide (n < 0) || decide (lg < v.b))) := by
                  show _ = _
                  unfold boundK; rw [HI.out]; dsimp only
                  rw [hxb, hv, hlg]; simp
                have b0 : 0 ≤ b := by omega
                have b1 : b < 8 := by omega
                have ic0 : 0 ≤ ic := by omega
                have ic1 : ic < p.rl := by omega
                have Hxb : Hid (s b.toNat = ⟨xb.b, xb.s⟩) := hxb
                clear hlg hxb hv hI hnn
                obtain ⟨vb, vs⟩ := v
                obtain ⟨xbb, xbs⟩ := xb
                unfold kn at Cix
                dsimp only at Cix HbK Hxb
                obtain ⟨T, HT⟩ : ∃ T : World → Prop, Hid (∀ w', T w' ↔ More w3 w') := ⟨_, fun _ => Iff.rfl⟩
                have HT0 : T w3.drew := (HT.out _).2 (More.refl _).drew
                have hneT : Nonempty { w' // T w' } := ⟨⟨_, HT0⟩⟩
                have HMt : Hid (More wm w3) := HM8.out.trans HM3.out
                have k0 : ∀ i : { w' // T w' }, i.val.cell? ⟨lb, k * 2 + 1, none⟩ = some (.slice (some ⟨gs, 0, none⟩) 8 cs) := fun i => (HMt.out.trans ((HT.out _).1 i.property)).cell c1
                have k1 : ∀ i : { w' // T w' }, i.val.cell? ⟨gs, b.toNat * 2, none⟩ = some (.int .i64 xbb) := fun i => by have := ((Hks.out.more (HMt.out.trans ((HT.out _).1 i.property))) b.toNat (by omega)).1.1; rw [Hxb.out] at this; exact this
                have k2 : ∀ i : { w' // T w' }, i.val.cell? ⟨gs, b.toNat * 2 + 1, none⟩ = some (.bool xbs) := fun i => by have := ((Hks.out.more (HMt.out.trans ((HT.out _).1 i.property))) b.toNat (by omega)).1.2; rw [Hxb.out] at this; exact this
                have k3 : ∀ i : { w' // T w' }, i.val.cell? ⟨wm.heap.size, 2, none⟩ = some (.int .i64 b) := fun i => (HB3.out.more ((HT.out _).1 i.property)).cell rfl
                have k4 : ∀ i : { w' // T w' }, i.val.cell? ⟨wm.heap.size, 4, none⟩ = some (.int .i64 n) := fun i => (HB3.out.more ((HT.out _).1 i.property)).cell rfl
                have k5 : True := trivial
                have k6 : True := trivial
                have k7 : True := trivial
                go_wp2_with (fail)
                clear i0
                refine wp_region_left (S := T) (by kernel_rfl) HT0 ?_
                refine ol_take 0 rfl (by kernel_rfl) HT0 (by kernel_rfl) (fun K hK => ?_); go_simp; refine hK _ _ ?_; clear hK K
                refine ol_take 1 rfl (by kernel_rfl) HT0 (by kernel_rfl) (fun K hK => ?_); go_simp; refine hK _ _ ?_; clear hK K
                refine ol_take 2 rfl (by kernel_rfl) HT0 (by kernel_rfl) (fun K hK => ?_); go_simp; refine hK _ _ ?_; clear hK K
                refine ol_take 3 rfl (by kernel_rfl) HT0 (by kernel_rfl) (fun K hK => ?_); go_simp; refine hK _ _ ?_; clear hK K
                refine ol_take 4 rfl (by kernel_rfl) HT0 (by kernel_rfl) (fun K hK => ?_); go_simp; refine hK _ _ ?_; clear hK K
                refine ol_take 5 rfl (by kernel_rfl) HT0 (by kernel_rfl) (fun K hK => ?_); go_simp; refine hK _ _ ?_; clear hK K
                refine ol_take 6 rfl (by kernel_rfl) HT0 (by kernel_rfl) (fun K hK => ?_); go_simp; refine hK _ _ ?_; clear hK K
                refine ol_take 7 rfl (by kernel_rfl) HT0 (by kernel_rfl) (fun K hK => ?_); go_simp; refine hK _ _ ?_; clear hK K
                refine ol_take 8 rfl (by kernel_rfl) HT0 (by kernel_rfl) (fun K hK => ?_); go_simp; refine hK _ _ ?_; clear hK K
                refine ol_take 9 rfl (by kernel_rfl) HT0 (by kernel_rfl) (fun K hK => ?_); go_simp; refine hK _ _ ?_; clear hK K
                refine ol_take 10 rfl (by kernel_rfl) HT0 (by kernel_rfl) (fun K hK => ?_); go_simp; refine hK _ _ ?_; clear hK K
                refine ol_two 11 12 (by kernel_rfl) ?_ ?_
                · -- the call, then the new block
                  refine ol_step rfl (by kernel_rfl) (fun K hK => ?_); go_simp
                  refine (Cix.out _).mono ?_
                  rintro e w5 ⟨rfl, m5⟩
                  have M5 : Hid (More w3 w5) := (More.refl _).drew.trans m5
                  clear m5
                  go_simp
                  refine hK _ _ ((HT.out _).2 M5.out) ?_; clear hK K
                  refine ol_one 12 (by kernel_rfl) ?_
                  refine ol_step rfl (by kernel_rfl) (fun K hK => ?_); go_simp
                  refine hK _ _ ((HT.out _).2 (M5.out.alloc _ _)) ?_; clear hK K
                  refine ol_one 13 (by kernel_rfl) ?_
                  refine ol_step rfl (by kernel_rfl) (fun K hK => ?_); go_simp
                  obtain ⟨w6, Hw6⟩ : ∃ w6 : World, Hid (w6 = w5.alloc (.cells #[.int .i64 vb, .bool vs] 23)) := ⟨_, rfl⟩
                  have HM6 : Hid (More w3 w6) := Hw6.out ▸ M5.out.alloc _ _
                  obtain ⟨bx, Hbx⟩ : ∃ bx, Hid (bx = w5.heap.size) := ⟨_, rfl⟩
                  have HB6 : Hid (Blk w6 bx #[.int .i64 vb, .bool vs] 23) := Hw6.out ▸ Hbx.out ▸ Blk.last _ _ _
                  rw [← Hw6.out, ← Hbx.out]
                  refine hK _ _ ((HT.out _).2 HM6.out) ?_; clear hK K
                  refine ol_done (by kernel_rfl) ?_
                  clear k0 k1 k2 k3 k4 k5 k6 k7 hneT HT0
                  -- the block bx, the world w6
                  have HMy : Hid (More wm w6) := (HM8.out.trans HM3.out).trans HM6.out
                  have HBi : Hid (Blk w6 wm.heap.size #[.int .i64 _, .int .i64 a, .int .i64 b, .int .i64 ic, .int .i64 n] 67) := HB3.out.more HM6.out
                  obtain ⟨X, HX⟩ : ∃ X : World → Prop, Hid (∀ w', X w' ↔ More w6 w') := ⟨_, fun _ => Iff.rfl⟩
                  have HX0 : X w6.drew := (HX.out _).2 (More.refl _).drew
                  have hneX : Nonempty { w' // X w' } := ⟨⟨_, HX0⟩⟩
                  have x0 : ∀ i : { w' // X w' }, i.val.cell? ⟨bx, 0, none⟩ = some (.int .i64 vb) := fun i => (HB6.out.more ((HX.out _).1 i.property)).cell rfl
                  have x1 : ∀ i : { w' // X w' }, i.val.cell? ⟨wm.heap.size, 4, none⟩ = some (.int .i64 n) := fun i => (HBi.out.more ((HX.out _).1 i.property)).cell rfl
                  have x2 : ∀ i : { w' // X w' }, i.val.cell? ⟨wm.heap.size, 3, none⟩ = some (.int .i64 ic) := fun i => (HBi.out.more ((HX.out _).1 i.property)).cell rfl
                  have x3 : ∀ i : { w' // X w' }, i.val.cell? ⟨w.heap.size, 0, none⟩ = some (.slice (some ⟨rb, ro, none⟩) p.rl rc) := fun i => (HMy.out.trans ((HX.out _).1 i.property)).cell p0
                  have x4 : ∀ i : { w' // X w' }, i.val.cell? ⟨rb, ro + ic.toNat * 2, none⟩ = some (.int .i64 lg) := fun i => Hlg.out _ (HMy.out.trans ((HX.out _).1 i.property))
                  have x5 : True := trivial
                  go_wp2_with (fail)
                  refine wp_region_ord (S := X) [(0, true), (1, true), (2, true), (3, true), (4, true), (5, true), (6, true), (7, true), (8, true), (9, true), (10, true), (11, true), (12, true), (13, true), (14, true), (15, true), (16, true), (17, true), (18, true)] (by kernel_rfl) (by kernel_rfl) (by kernel_rfl) HX0 ?_
                  iterate 2 (refine wpOrd_take rfl (by kernel_rfl) (fun K hK => ?_); go_simp; refine hK _ _ ?_; clear hK K)
                  cases bb with
                  | true =>
                    iterate 3 (refine wpOrd_pass rfl HX0 (by kernel_rfl) (fun K hK => ?_); go_simp; refine hK _ _ ?_; clear hK K)
                    refine wpOrd_pickT rfl rfl (by kernel_rfl) rfl (fun K hK => ?_); go_simp; refine hK _ _ ?_; clear hK K
                    (refine wpOrd_take rfl (by kernel_rfl) (fun K hK => ?_); go_simp; refine hK _ _ ?_; clear hK K)
                    iterate 10 (refine wpOrd_pass rfl HX0 (by kernel_rfl) (fun K hK => ?_); go_simp; refine hK _ _ ?_; clear hK K)
                    refine wpOrd_pickT rfl rfl (by kernel_rfl) rfl (fun K hK => ?_); go_simp; refine hK _ _ ?_; clear hK K
                    (refine wpOrd_take rfl (by kernel_rfl) (fun K hK => ?_); go_simp; refine hK _ _ ?_; clear hK K)
                    have Hck : Hid (checkK p L = (4, (k : Int))) := by
                      show _ = _
                      have hf : faultK p k s = 4 := by unfold faultK; rw [← HO.out]; rfl
                      rw [Hn2.out, hf]; rfl
                    refine wpOrd_done ?_
                    clear x0 x1 x2 x3 x4 x5 hneX HX0
                    have HMz : Hid (More W0 w6.drew) := (((HMm.out.trans HM8.out).trans HM3.out).trans HM6.out).drew
                    have t0 : w6.cell? ⟨w.heap.size + 1, 0, none⟩ = some (.int .i64 0) := (HRES.out.more (((HMm.out.trans HM8.out).trans HM3.out).trans HM6.out)).cell rfl
                    have t1 : w6.cell? ⟨w.heap.size + 1, 1, none⟩ = some (.int .i64 0) := (HRES.out.more (((HMm.out.trans HM8.out).trans HM3.out).trans HM6.out)).cell rfl
                    have u0 : w6.frozen? ⟨w.heap.size + 1, 0, none⟩ = false := (HRES.out.more (((HMm.out.trans HM8.out).trans HM3.out).trans HM6.out)).frozen 0
                    have u1 : w6.frozen? ⟨w.heap.size + 1, 1, none⟩ = false := (HRES.out.more (((HMm.out.trans HM8.out).trans HM3.out).trans HM6.out)).frozen 1
                    go_wp2
                    refine bodyPost_ret (v := flt 4 k) (by simp [flt, results, Try.results14, go_sem, *]) rfl ?_
                    have hE := HP.out L HV2.out.2 _ (((HM0.out.trans (((HMm.out.trans HM8.out).trans HM3.out).trans HM6.out)).setCell (a := ⟨w.heap.size + 1, 0, none⟩) (by dsimp only; omega) (.int .i64 4)).setCell (a := ⟨w.heap.size + 1, 1, none⟩) (by dsimp only; omega) (.int .i64 k)).drew
                    rw [Hck.out] at hE
                    exact hE
                  | false =>
                    by_cases hn0 : n < 0
                    · have hdn : decide (n < 0) = true := by simp [hn0]
                      have Hbd : Hid (boundK p (p.ins k) s = true) := by show _ = _; rw [HbK.out, hdn]; rfl
                      iterate 3 (refine wpOrd_take rfl (by kernel_rfl) (fun K hK => ?_); go_simp; refine hK _ _ ?_; clear hK K)
                      refine wpOrd_pickF rfl rfl (by kernel_rfl) rfl (fun K hK => ?_); go_simp; refine hK _ _ ?_; clear hK K
                      (refine wpOrd_take rfl (by kernel_rfl) (fun K hK => ?_); go_simp; refine hK _ _ ?_; clear hK K)
                      iterate 10 (refine wpOrd_pass rfl HX0 (by kernel_rfl) (fun K hK => ?_); go_simp; refine hK _ _ ?_; clear hK K)
                      refine wpOrd_pickT rfl rfl (by kernel_rfl) rfl (fun K hK => ?_); go_simp; refine hK _ _ ?_; clear hK K
                      (refine wpOrd_take rfl (by kernel_rfl) (fun K hK => ?_); go_simp; refine hK _ _ ?_; clear hK K)
                      have Hck : Hid (checkK p L = (4, (k : Int))) := by
                        show _ = _
                        have hf : faultK p k s = 4 := by unfold faultK; rw [Hbd.out, Bool.or_true]; rfl
                        rw [Hn2.out, hf]; rfl
                      refine wpOrd_done ?_
                      clear x0 x1 x2 x3 x4 x5 hneX HX0
                      have HMz : Hid (More W0 w6.drew) := (((HMm.out.trans HM8.out).trans HM3.out).trans HM6.out).drew
                      have t0 : w6.cell? ⟨w.heap.size + 1, 0, none⟩ = some (.int .i64 0) := (HRES.out.more (((HMm.out.trans HM8.out).trans HM3.out).trans HM6.out)).cell rfl
                      have t1 : w6.cell? ⟨w.heap.size + 1, 1, none⟩ = some (.int .i64 0) := (HRES.out.more (((HMm.out.trans HM8.out).trans HM3.out).trans HM6.out)).cell rfl
                      have u0 : w6.frozen? ⟨w.heap.size + 1, 0, none⟩ = false := (HRES.out.more (((HMm.out.trans HM8.out).trans HM3.out).trans HM6.out)).frozen 0
                      have u1 : w6.frozen? ⟨w.heap.size + 1, 1, none⟩ = false := (HRES.out.more (((HMm.out.trans HM8.out).trans HM3.out).trans HM6.out)).frozen 1
                      go_wp2
                      refine bodyPost_ret (v := flt 4 k) (by simp [flt, results, Try.results14, go_sem, *]) rfl ?_
                      have hE := HP.out L HV2.out.2 _ (((HM0.out.trans (((HMm.out.trans HM8.out).trans HM3.out).trans HM6.out)).setCell (a := ⟨w.heap.size + 1, 0, none⟩) (by dsimp only; omega) (.int .i64 4)).setCell (a := ⟨w.heap.size + 1, 1, none⟩) (by dsimp only; omega) (.int .i64 k)).drew
                      rw [Hck.out] at hE
                      exact hE
                    · have hdn : decide (n < 0) = false := by simp [hn0]
                      iterate 3 (refine wpOrd_take rfl (by kernel_rfl) (fun K hK => ?_); go_simp; refine hK _ _ ?_; clear hK K)
                      refine wpOrd_pickF rfl rfl (by kernel_rfl) rfl (fun K hK => ?_); go_simp; refine hK _ _ ?_; clear hK K
                      iterate 11 (refine wpOrd_take rfl (by kernel_rfl) (fun K hK => ?_); go_simp; refine hK _ _ ?_; clear hK K)
                      refine wpOrd_pickF rfl rfl (by kernel_rfl) rfl (fun K hK => ?_); go_simp; refine hK _ _ ?_; clear hK K
                      (refine wpOrd_take rfl (by kernel_rfl) (fun K hK => ?_); go_simp; refine hK _ _ ?_; clear hK K)
                      by_cases hlv : lg < vb
                      · have Hbd : Hid (boundK p (p.ins k) s = true) := by show _ = _; rw [HbK.out, hdn, decide_eq_true hlv]; rfl
                        have Hck : Hid (checkK p L = (4, (k : Int))) := by
                          show _ = _
                          have hf : faultK p k s = 4 := by unfold faultK; rw [Hbd.out, Bool.or_true]; rfl
                          rw [Hn2.out, hf]; rfl
                        refine wpOrd_done ?_
                        clear x0 x1 x2 x3 x4 x5 hneX HX0
                        have HMz : Hid (More W0 w6.drew) := (((HMm.out.trans HM8.out).trans HM3.out).trans HM6.out).drew
                        have t0 : w6.cell? ⟨w.heap.size + 1, 0, none⟩ = some (.int .i64 0) := (HRES.out.more (((HMm.out.trans HM8.out).trans HM3.out).trans HM6.out)).cell rfl
                        have t1 : w6.cell? ⟨w.heap.size + 1, 1, none⟩ = some (.int .i64 0) := (HRES.out.more (((HMm.out.trans HM8.out).trans HM3.out).trans HM6.out)).cell rfl
                        have u0 : w6.frozen? ⟨w.heap.size + 1, 0, none⟩ = false := (HRES.out.more (((HMm.out.trans HM8.out).trans HM3.out).trans HM6.out)).frozen 0
                        have u1 : w6.frozen? ⟨w.heap.size + 1, 1, none⟩ = false := (HRES.out.more (((HMm.out.trans HM8.out).trans HM3.out).trans HM6.out)).frozen 1
                        go_wp2
                        refine bodyPost_ret (v := flt 4 k) (by simp [flt, results, Try.results14, go_sem, *]) rfl ?_
                        have hE := HP.out L HV2.out.2 _ (((HM0.out.trans (((HMm.out.trans HM8.out).trans HM3.out).trans HM6.out)).setCell (a := ⟨w.heap.size + 1, 0, none⟩) (by dsimp only; omega) (.int .i64 4)).setCell (a := ⟨w.heap.size + 1, 1, none⟩) (by dsimp only; omega) (.int .i64 k)).drew
                        rw [Hck.out] at hE
                        exact hE
                      · have hdl : decide (lg < vb) = false := by simp [hlv]
                        have Hno : Hid ((outK p k || boundK p (p.ins k) s) = false) := by show _ = _; rw [← HO.out, HbK.out, hdn, hdl]; rfl
                        refine wpOrd_done ?_
                        clear x0 x1 x2 x3 x4 x5 hneX HX0
                        have HMd : Hid (More w3 w6.drew) := HM6.out.drew
                        obtain ⟨w7, Hw7⟩ : ∃ w7 : World, Hid (w7 = w6.drew) := ⟨_, rfl⟩
                        have HMe : Hid (More w3 w7) := Hw7.out ▸ HMd.out
                        rw [← Hw7.out]
                        have HMx : Hid (More wm w7) := (HM8.out.trans HM3.out).trans HMe.out
                        have HBx : Hid (Blk w7 wm.heap.size #[.int .i64 _, .int .i64 a, .int .i64 b, .int .i64 ic, .int .i64 n] 67) := (HB8.out.more HM3.out).more HMe.out
                        obtain ⟨U, HU⟩ : ∃ U : World → Prop, Hid (∀ w', U w' ↔ More w7 w') := ⟨_, fun _ => Iff.rfl⟩
                        have HU0 : U w7.drew := (HU.out _).2 (More.refl _).drew
                        have hneU : Nonempty { w' // U w' } := ⟨⟨_, HU0⟩⟩
                        have g0 : ∀ i : { w' // U w' }, i.val.cell? ⟨w.heap.size, 0, none⟩ = some (.slice (some ⟨rb, ro, none⟩) p.rl rc) := fun i => (HMx.out.trans ((HU.out _).1 i.property)).cell p0
                        have g1 : ∀ i : { w' // U w' }, i.val.cell? ⟨w.heap.size, 1, none⟩ = some (.slice (some ⟨cb, co, none⟩) cl cc) := fun i => (HMx.out.trans ((HU.out _).1 i.property)).cell p1
                        have g2 : ∀ i : { w' // U w' }, i.val.cell? ⟨lb, k * 2 + 1, none⟩ = some (.slice (some ⟨gs, 0, none⟩) 8 cs) := fun i => (HMx.out.trans ((HU.out _).1 i.property)).cell c1
                        have g3 : ∀ i : { w' // U w' }, i.val.cell? ⟨wm.heap.size, 0, none⟩ = some (.int .i64 _) := fun i => (HBx.out.more ((HU.out _).1 i.property)).cell rfl
                        have g4 : ∀ i : { w' // U w' }, i.val.cell? ⟨wm.heap.size, 1, none⟩ = some (.int .i64 a) := fun i => (HBx.out.more ((HU.out _).1 i.property)).cell rfl
                        have g5 : ∀ i : { w' // U w' }, i.val.cell? ⟨wm.heap.size, 2, none⟩ = some (.int .i64 b) := fun i => (HBx.out.more ((HU.out _).1 i.property)).cell rfl
                        have g6 : ∀ i : { w' // U w' }, i.val.cell? ⟨wm.heap.size, 3, none⟩ = some (.int .i64 ic) := fun i => (HBx.out.more ((HU.out _).1 i.property)).cell rfl
                        have g7 : ∀ i : { w' // U w' }, i.val.cell? ⟨wm.heap.size, 4, none⟩ = some (.int .i64 n) := fun i => (HBx.out.more ((HU.out _).1 i.property)).cell rfl
                        go_wp2_with (fail)
                        refine wp_region_ord (S := U) [(0, true), (1, true), (2, true), (3, true), (4, true), (5, true), (6, true), (7, false)] (by kernel_rfl) (by kernel_rfl) (by kernel_rfl) HU0 ?_
                        iterate 7 (refine wpOrd_take rfl (by kernel_rfl) (fun K hK => ?_); go_simp; refine hK _ _ ?_; clear hK K)
                        refine wpOrd_busy rfl (by kernel_rfl) (fun K hK => ?_); go_simp
                        refine (Csec.out _ (HMx.out.drew)).mono ?_
                        rintro e w9 ⟨rfl, m9⟩
                        have HM9 : Hid (More w7 w9) := (More.refl _).drew.trans m9
                        have HU9 : U w9 := (HU.out _).2 HM9.out
                        clear m9
                        cases sc with
                        | true =>
                          have Hck : Hid (checkK p L = (5, (k : Int))) := by
                            show _ = _
                            have hf : faultK p k s = 5 := by unfold faultK; rw [Hno.out, Hsc2.out]; rfl
                            rw [Hn2.out, hf]; rfl
                          go_simp
                          refine hK _ _ HU9 ?_; clear hK K
                          refine wpOrd_done ?_
                          clear g0 g1 g2 g3 g4 g5 g6 g7 hneU HU0 HU9
                          have t0 := (HRES.out.more ((HMm.out.trans HMx.out).trans HM9.out)).cell (j := 0) (v := .int .i64 0) rfl
                          have t1 := (HRES.out.more ((HMm.out.trans HMx.out).trans HM9.out)).cell (j := 1) (v := .int .i64 0) rfl
                          have u0 := (HRES.out.more ((HMm.out.trans HMx.out).trans HM9.out)).frozen 0
                          have u1 := (HRES.out.more ((HMm.out.trans HMx.out).trans HM9.out)).frozen 1
                          go_wp2
                          refine bodyPost_ret (v := flt 5 k) (by simp [flt, results, Try.results14, go_sem, *]) rfl ?_
                          have hE := HP.out L HV2.out.2 _ (((HM0.out.trans ((HMm.out.trans HMx.out).trans HM9.out)).setCell (a := ⟨w.heap.size + 1, 0, none⟩) (by dsimp only; omega) (.int .i64 5)).setCell (a := ⟨w.heap.size + 1, 1, none⟩) (by dsimp only; omega) (.int .i64 k))
                          rw [Hck.out] at hE
                          exact hE
                        | false =>
                          have Hck : Hid (checkK p L = scanK p L g (k + 1)) := by
                            show _ = _
                            have hf : faultK p k s = 0 := by unfold faultK; rw [Hno.out, Hsc2.out]; rfl
                            rw [Hn2.out, if_pos hf]
                          go_simp
                          refine hK _ _ HU9 ?_; clear hK K
                          refine wpOrd_done ?_
                          clear g0 g1 g2 g3 g4 g5 g6 g7 hneU HU0 HU9
                          go_wp2
                          go_roundg g
                          case measure => omega
                          case rel => exact ⟨k + 1, by omega, by first | rfl | simp, (HMw.out.trans HMx.out).trans HM9.out, Hck.out⟩
                · -- the new block, then the call
                  refine ol_step rfl (by kernel_rfl) (fun K hK => ?_); go_simp
                  refine hK _ _ ((HT.out _).2 ((More.refl _).drew.alloc _ _)) ?_; clear hK K
                  refine ol_one 11 (by kernel_rfl) ?_
                  refine ol_step rfl (by kernel_rfl) (fun K hK => ?_); go_simp
                  refine (Cix.out _).mono ?_
                  rintro e w5 ⟨rfl, m5⟩
                  have M5 : Hid (More w3 w5) := ((More.refl _).drew.alloc _ _).trans m5
                  have HB5 : Hid (Blk w5 w3.heap.size #[.int .i64 0, .bool false] 23) := (Blk.last w3.drew _ _).more m5
                  clear m5
                  go_simp
                  refine hK _ _ ((HT.out _).2 M5.out) ?_; clear hK K
                  refine ol_one 13 (by kernel_rfl) ?_
                  have y0 := HB5.out.cell (j := 0) (v := .int .i64 0) rfl
                  have y1 := HB5.out.cell (j := 1) (v := .bool false) rfl
                  have y2 := HB5.out.frozen 0
                  have y3 := HB5.out.frozen 1
                  refine ol_step rfl (by kernel_rfl) (fun K hK => ?_); go_simp
                  obtain ⟨w6, Hw6⟩ : ∃ w6 : World, Hid (w6 = (w5.setCell ⟨w3.heap.size, 0, none⟩ (.int .i64 vb)).setCell ⟨w3.heap.size, 1, none⟩ (.bool vs)) := ⟨_, rfl⟩
                  have HM6 : Hid (More w3 w6) := Hw6.out ▸ (M5.out.setCell (Nat.le_refl _) _).setCell (Nat.le_refl _) _
                  obtain ⟨bx, Hbx⟩ : ∃ bx, Hid (bx = w3.heap.size) := ⟨_, rfl⟩
                  have HB6 : Hid (Blk w6 bx #[.int .i64 vb, .bool vs] 23) := by
                    show Blk _ _ _ _
                    rw [Hw6.out, Hbx.out]
                    have h1 := HB5.out
                    unfold Blk at h1 ⊢
                    simp [World.setCell, Array.getElem?_modify, h1]
                  rw [← Hw6.out]
                  simp only [← Hbx.out]
                  clear y0 y1 y2 y3
                  refine hK _ _ ((HT.out _).2 HM6.out) ?_; clear hK K
                  refine ol_done (by kernel_rfl) ?_
                  clear k0 k1 k2 k3 k4 k5 k6 k7 hneT HT0
                  -- the block bx, the world w6
                  have HMy : Hid (More wm w6) := (HM8.out.trans HM3.out).trans HM6.out
                  have HBi : Hid (Blk w6 wm.heap.size #[.int .i64 _, .int .i64 a, .int .i64 b, .int .i64 ic, .int .i64 n] 67) := HB3.out.more HM6.out
                  obtain ⟨X, HX⟩ : ∃ X : World → Prop, Hid (∀ w', X w' ↔ More w6 w') := ⟨_, fun _ => Iff.rfl⟩
                  have HX0 : X w6.drew := (HX.out _).2 (More.refl _).drew
                  have hneX : Nonempty { w' // X w' } := ⟨⟨_, HX0⟩⟩
                  have x0 : ∀ i : { w' // X w' }, i.val.cell? ⟨bx, 0, none⟩ = some (.int .i64 vb) := fun i => (HB6.out.more ((HX.out _).1 i.property)).cell rfl
                  have x1 : ∀ i : { w' // X w' }, i.val.cell? ⟨wm.heap.size, 4, none⟩ = some (.int .i64 n) := fun i => (HBi.out.more ((HX.out _).1 i.property)).cell rfl
                  have x2 : ∀ i : { w' // X w' }, i.val.cell? ⟨wm.heap.size, 3, none⟩ = some (.int .i64 ic) := fun i => (HBi.out.more ((HX.out _).1 i.property)).cell rfl
                  have x3 : ∀ i : { w' // X w' }, i.val.cell? ⟨w.heap.size, 0, none⟩ = some (.slice (some ⟨rb, ro, none⟩) p.rl rc) := fun i => (HMy.out.trans ((HX.out _).1 i.property)).cell p0
                  have x4 : ∀ i : { w' // X w' }, i.val.cell? ⟨rb, ro + ic.toNat * 2, none⟩ = some (.int .i64 lg) := fun i => Hlg.out _ (HMy.out.trans ((HX.out _).1 i.property))
                  have x5 : True := trivial
                  go_wp2_with (fail)
                  refine wp_region_ord (S := X) [(0, true), (1, true), (2, true), (3, true), (4, true), (5, true), (6, true), (7, true), (8, true), (9, true), (10, true), (11, true), (12, true), (13, true), (14, true), (15, true), (16, true), (17, true), (18, true)] (by kernel_rfl) (by kernel_rfl) (by kernel_rfl) HX0 ?_
                  iterate 2 (refine wpOrd_take rfl (by kernel_rfl) (fun K hK => ?_); go_simp; refine hK _ _ ?_; clear hK K)
                  cases bb with
                  | true =>
                    iterate 3 (refine wpOrd_pass rfl HX0 (by kernel_rfl) (fun K hK => ?_); go_simp; refine hK _ _ ?_; clear hK K)
                    refine wpOrd_pickT rfl rfl (by kernel_rfl) rfl (fun K hK => ?_); go_simp; refine hK _ _ ?_; clear hK K
                    (refine wpOrd_take rfl (by kernel_rfl) (fun K hK => ?_); go_simp; refine hK _ _ ?_; clear hK K)
                    iterate 10 (refine wpOrd_pass rfl HX0 (by kernel_rfl) (fun K hK => ?_); go_simp; refine hK _ _ ?_; clear hK K)
                    refine wpOrd_pickT rfl rfl (by kernel_rfl) rfl (fun K hK => ?_); go_simp; refine hK _ _ ?_; clear hK K
                    (refine wpOrd_take rfl (by kernel_rfl) (fun K hK => ?_); go_simp; refine hK _ _ ?_; clear hK K)
                    have Hck : Hid (checkK p L = (4, (k : Int))) := by
                      show _ = _
                      have hf : faultK p k s = 4 := by unfold faultK; rw [← HO.out]; rfl
                      rw [Hn2.out, hf]; rfl
                    refine wpOrd_done ?_
                    clear x0 x1 x2 x3 x4 x5 hneX HX0
                    have HMz : Hid (More W0 w6.drew) := (((HMm.out.trans HM8.out).trans HM3.out).trans HM6.out).drew
                    have t0 : w6.cell? ⟨w.heap.size + 1, 0, none⟩ = some (.int .i64 0) := (HRES.out.more (((HMm.out.trans HM8.out).trans HM3.out).trans HM6.out)).cell rfl
                    have t1 : w6.cell? ⟨w.heap.size + 1, 1, none⟩ = some (.int .i64 0) := (HRES.out.more (((HMm.out.trans HM8.out).trans HM3.out).trans HM6.out)).cell rfl
                    have u0 : w6.frozen? ⟨w.heap.size + 1, 0, none⟩ = false := (HRES.out.more (((HMm.out.trans HM8.out).trans HM3.out).trans HM6.out)).frozen 0
                    have u1 : w6.frozen? ⟨w.heap.size + 1, 1, none⟩ = false := (HRES.out.more (((HMm.out.trans HM8.out).trans HM3.out).trans HM6.out)).frozen 1
                    go_wp2
                    refine bodyPost_ret (v := flt 4 k) (by simp [flt, results, Try.results14, go_sem, *]) rfl ?_
                    have hE := HP.out L HV2.out.2 _ (((HM0.out.trans (((HMm.out.trans HM8.out).trans HM3.out).trans HM6.out)).setCell (a := ⟨w.heap.size + 1, 0, none⟩) (by dsimp only; omega) (.int .i64 4)).setCell (a := ⟨w.heap.size + 1, 1, none⟩) (by dsimp only; omega) (.int .i64 k)).drew
                    rw [Hck.out] at hE
                    exact hE
                  | false =>
                    by_cases hn0 : n < 0
                    · have hdn : decide (n < 0) = true := by simp [hn0]
                      have Hbd : Hid (boundK p (p.ins k) s = true) := by show _ = _; rw [HbK.out, hdn]; rfl
                      iterate 3 (refine wpOrd_take rfl (by kernel_rfl) (fun K hK => ?_); go_simp; refine hK _ _ ?_; clear hK K)
                      refine wpOrd_pickF rfl rfl (by kernel_rfl) rfl (fun K hK => ?_); go_simp; refine hK _ _ ?_; clear hK K
                      (refine wpOrd_take rfl (by kernel_rfl) (fun K hK => ?_); go_simp; refine hK _ _ ?_; clear hK K)
                      iterate 10 (refine wpOrd_pass rfl HX0 (by kernel_rfl) (fun K hK => ?_); go_simp; refine hK _ _ ?_; clear hK K)
                      refine wpOrd_pickT rfl rfl (by kernel_rfl) rfl (fun K hK => ?_); go_simp; refine hK _ _ ?_; clear hK K
                      (refine wpOrd_take rfl (by kernel_rfl) (fun K hK => ?_); go_simp; refine hK _ _ ?_; clear hK K)
                      have Hck : Hid (checkK p L = (4, (k : Int))) := by
                        show _ = _
                        have hf : faultK p k s = 4 := by unfold faultK; rw [Hbd.out, Bool.or_true]; rfl
                        rw [Hn2.out, hf]; rfl
                      refine wpOrd_done ?_
                      clear x0 x1 x2 x3 x4 x5 hneX HX0
                      have HMz : Hid (More W0 w6.drew) := (((HMm.out.trans HM8.out).trans HM3.out).trans HM6.out).drew
                      have t0 : w6.cell? ⟨w.heap.size + 1, 0, none⟩ = some (.int .i64 0) := (HRES.out.more (((HMm.out.trans HM8.out).trans HM3.out).trans HM6.out)).cell rfl
                      have t1 : w6.cell? ⟨w.heap.size + 1, 1, none⟩ = some (.int .i64 0) := (HRES.out.more (((HMm.out.trans HM8.out).trans HM3.out).trans HM6.out)).cell rfl
                      have u0 : w6.frozen? ⟨w.heap.size + 1, 0, none⟩ = false := (HRES.out.more (((HMm.out.trans HM8.out).trans HM3.out).trans HM6.out)).frozen 0
                      have u1 : w6.frozen? ⟨w.heap.size + 1, 1, none⟩ = false := (HRES.out.more (((HMm.out.trans HM8.out).trans HM3.out).trans HM6.out)).frozen 1
                      go_wp2
                      refine bodyPost_ret (v := flt 4 k) (by simp [flt, results, Try.results14, go_sem, *]) rfl ?_
                      have hE := HP.out L HV2.out.2 _ (((HM0.out.trans (((HMm.out.trans HM8.out).trans HM3.out).trans HM6.out)).setCell (a := ⟨w.heap.size + 1, 0, none⟩) (by dsimp only; omega) (.int .i64 4)).setCell (a := ⟨w.heap.size + 1, 1, none⟩) (by dsimp only; omega) (.int .i64 k)).drew
                      rw [Hck.out] at hE
                      exact hE
                    · have hdn : decide (n < 0) = false := by simp [hn0]
                      iterate 3 (refine wpOrd_take rfl (by kernel_rfl) (fun K hK => ?_); go_simp; refine hK _ _ ?_; clear hK K)
                      refine wpOrd_pickF rfl rfl (by kernel_rfl) rfl (fun K hK => ?_); go_simp; refine hK _ _ ?_; clear hK K
                      iterate 11 (refine wpOrd_take rfl (by kernel_rfl) (fun K hK => ?_); go_simp; refine hK _ _ ?_; clear hK K)
                      refine wpOrd_pickF rfl rfl (by kernel_rfl) rfl (fun K hK => ?_); go_simp; refine hK _ _ ?_; clear hK K
                      (refine wpOrd_take rfl (by kernel_rfl) (fun K hK => ?_); go_simp; refine hK _ _ ?_; clear hK K)
                      by_cases hlv : lg < vb
                      · have Hbd : Hid (boundK p (p.ins k) s = true) := by show _ = _; rw [HbK.out, hdn, decide_eq_true hlv]; rfl
                        have Hck : Hid (checkK p L = (4, (k : Int))) := by
                          show _ = _
                          have hf : faultK p k s = 4 := by unfold faultK; rw [Hbd.out, Bool.or_true]; rfl
                          rw [Hn2.out, hf]; rfl
                        refine wpOrd_done ?_
                        clear x0 x1 x2 x3 x4 x5 hneX HX0
                        have HMz : Hid (More W0 w6.drew) := (((HMm.out.trans HM8.out).trans HM3.out).trans HM6.out).drew
                        have t0 : w6.cell? ⟨w.heap.size + 1, 0, none⟩ = some (.int .i64 0) := (HRES.out.more (((HMm.out.trans HM8.out).trans HM3.out).trans HM6.out)).cell rfl
                        have t1 : w6.cell? ⟨w.heap.size + 1, 1, none⟩ = some (.int .i64 0) := (HRES.out.more (((HMm.out.trans HM8.out).trans HM3.out).trans HM6.out)).cell rfl
                        have u0 : w6.frozen? ⟨w.heap.size + 1, 0, none⟩ = false := (HRES.out.more (((HMm.out.trans HM8.out).trans HM3.out).trans HM6.out)).frozen 0
                        have u1 : w6.frozen? ⟨w.heap.size + 1, 1, none⟩ = false := (HRES.out.more (((HMm.out.trans HM8.out).trans HM3.out).trans HM6.out)).frozen 1
                        go_wp2
                        refine bodyPost_ret (v := flt 4 k) (by simp [flt, results, Try.results14, go_sem, *]) rfl ?_
                        have hE := HP.out L HV2.out.2 _ (((HM0.out.trans (((HMm.out.trans HM8.out).trans HM3.out).trans HM6.out)).setCell (a := ⟨w.heap.size + 1, 0, none⟩) (by dsimp only; omega) (.int .i64 4)).setCell (a := ⟨w.heap.size + 1, 1, none⟩) (by dsimp only; omega) (.int .i64 k)).drew
                        rw [Hck.out] at hE
                        exact hE
                      · have hdl : decide (lg < vb) = false := by simp [hlv]
                        have Hno : Hid ((outK p k || boundK p (p.ins k) s) = false) := by show _ = _; rw [← HO.out, HbK.out, hdn, hdl]; rfl
                        refine wpOrd_done ?_
                        clear x0 x1 x2 x3 x4 x5 hneX HX0
                        have HMd : Hid (More w3 w6.drew) := HM6.out.drew
                        obtain ⟨w7, Hw7⟩ : ∃ w7 : World, Hid (w7 = w6.drew) := ⟨_, rfl⟩
                        have HMe : Hid (More w3 w7) := Hw7.out ▸ HMd.out
                        rw [← Hw7.out]
                        have HMx : Hid (More wm w7) := (HM8.out.trans HM3.out).trans HMe.out
                        have HBx : Hid (Blk w7 wm.heap.size #[.int .i64 _, .int .i64 a, .int .i64 b, .int .i64 ic, .int .i64 n] 67) := (HB8.out.more HM3.out).more HMe.out
                        obtain ⟨U, HU⟩ : ∃ U : World → Prop, Hid (∀ w', U w' ↔ More w7 w') := ⟨_, fun _ => Iff.rfl⟩
                        have HU0 : U w7.drew := (HU.out _).2 (More.refl _).drew
                        have hneU : Nonempty { w' // U w' } := ⟨⟨_, HU0⟩⟩
                        have g0 : ∀ i : { w' // U w' }, i.val.cell? ⟨w.heap.size, 0, none⟩ = some (.slice (some ⟨rb, ro, none⟩) p.rl rc) := fun i => (HMx.out.trans ((HU.out _).1 i.property)).cell p0
                        have g1 : ∀ i : { w' // U w' }, i.val.cell? ⟨w.heap.size, 1, none⟩ = some (.slice (some ⟨cb, co, none⟩) cl cc) := fun i => (HMx.out.trans ((HU.out _).1 i.property)).cell p1
                        have g2 : ∀ i : { w' // U w' }, i.val.cell? ⟨lb, k * 2 + 1, none⟩ = some (.slice (some ⟨gs, 0, none⟩) 8 cs) := fun i => (HMx.out.trans ((HU.out _).1 i.property)).cell c1
                        have g3 : ∀ i : { w' // U w' }, i.val.cell? ⟨wm.heap.size, 0, none⟩ = some (.int .i64 _) := fun i => (HBx.out.more ((HU.out _).1 i.property)).cell rfl
                        have g4 : ∀ i : { w' // U w' }, i.val.cell? ⟨wm.heap.size, 1, none⟩ = some (.int .i64 a) := fun i => (HBx.out.more ((HU.out _).1 i.property)).cell rfl
                        have g5 : ∀ i : { w' // U w' }, i.val.cell? ⟨wm.heap.size, 2, none⟩ = some (.int .i64 b) := fun i => (HBx.out.more ((HU.out _).1 i.property)).cell rfl
                        have g6 : ∀ i : { w' // U w' }, i.val.cell? ⟨wm.heap.size, 3, none⟩ = some (.int .i64 ic) := fun i => (HBx.out.more ((HU.out _).1 i.property)).cell rfl
                        have g7 : ∀ i : { w' // U w' }, i.val.cell? ⟨wm.heap.size, 4, none⟩ = some (.int .i64 n) := fun i => (HBx.out.more ((HU.out _).1 i.property)).cell rfl
                        go_wp2_with (fail)
                        refine wp_region_ord (S := U) [(0, true), (1, true), (2, true), (3, true), (4, true), (5, true), (6, true), (7, false)] (by kernel_rfl) (by kernel_rfl) (by kernel_rfl) HU0 ?_
                        iterate 7 (refine wpOrd_take rfl (by kernel_rfl) (fun K hK => ?_); go_simp; refine hK _ _ ?_; clear hK K)
                        refine wpOrd_busy rfl (by kernel_rfl) (fun K hK => ?_); go_simp
                        refine (Csec.out _ (HMx.out.drew)).mono ?_
                        rintro e w9 ⟨rfl, m9⟩
                        have HM9 : Hid (More w7 w9) := (More.refl _).drew.trans m9
                        have HU9 : U w9 := (HU.out _).2 HM9.out
                        clear m9
                        cases sc with
                        | true =>
                          have Hck : Hid (checkK p L = (5, (k : Int))) := by
                            show _ = _
                            have hf : faultK p k s = 5 := by unfold faultK; rw [Hno.out, Hsc2.out]; rfl
                            rw [Hn2.out, hf]; rfl
                          go_simp
                          refine hK _ _ HU9 ?_; clear hK K
                          refine wpOrd_done ?_
                          clear g0 g1 g2 g3 g4 g5 g6 g7 hneU HU0 HU9
                          have t0 := (HRES.out.more ((HMm.out.trans HMx.out).trans HM9.out)).cell (j := 0) (v := .int .i64 0) rfl
                          have t1 := (HRES.out.more ((HMm.out.trans HMx.out).trans HM9.out)).cell (j := 1) (v := .int .i64 0) rfl
                          have u0 := (HRES.out.more ((HMm.out.trans HMx.out).trans HM9.out)).frozen 0
                          have u1 := (HRES.out.more ((HMm.out.trans HMx.out).trans HM9.out)).frozen 1
                          go_wp2
                          refine bodyPost_ret (v := flt 5 k) (by simp [flt, results, Try.results14, go_sem, *]) rfl ?_
                          have hE := HP.out L HV2.out.2 _ (((HM0.out.trans ((HMm.out.trans HMx.out).trans HM9.out)).setCell (a := ⟨w.heap.size + 1, 0, none⟩) (by dsimp only; omega) (.int .i64 5)).setCell (a := ⟨w.heap.size + 1, 1, none⟩) (by dsimp only; omega) (.int .i64 k))
                          rw [Hck.out] at hE
                          exact hE
                        | false =>
                          have Hck : Hid (checkK p L = scanK p L g (k + 1)) := by
                            show _ = _
                            have hf : faultK p k s = 0 := by unfold faultK; rw [Hno.out, Hsc2.out]; rfl
                            rw [Hn2.out, if_pos hf]
                          go_simp
                          refine hK _ _ HU9 ?_; clear hK K
                          refine wpOrd_done ?_
                          clear g0 g1 g2 g3 g4 g5 g6 g7 hneU HU0 HU9
                          go_wp2
                          go_roundg g
                          case measure => omega
                          case rel => exact ⟨k + 1, by omega, by first | rfl | simp, (HMw.out.trans HMx.out).trans HM9.out, Hck.out⟩
            · have e3 : (op == 3) = false := by simp; omega
              have e4 : (op == 4) = false := by simp; omega
              have Hbd : Hid (boundK p (p.ins k) s = false) := by
                show _ = _
                unfold boundK; rw [HI.out]; dsimp only
                simp; omega
              clear hop
              cases bb with
              | true =>
                have Hck : Hid (checkK p L = (4, (k : Int))) := by
                  show _ = _
                  have hf : faultK p k s = 4 := by unfold faultK; rw [← HO.out]; rfl
                  rw [Hn2.out, hf]; rfl
                have t0 := (HRES.out.more ((HMm.out.trans HM8.out).trans HM3.out)).cell (j := 0) (v := .int .i64 0) rfl
                have t1 := (HRES.out.more ((HMm.out.trans HM8.out).trans HM3.out)).cell (j := 1) (v := .int .i64 0) rfl
                have u0 := (HRES.out.more ((HMm.out.trans HM8.out).trans HM3.out)).frozen 0
                have u1 := (HRES.out.more ((HMm.out.trans HM8.out).trans HM3.out)).frozen 1
                go_wp2
                refine bodyPost_ret (v := flt 4 k) (by simp [flt, results, Try.results14, go_sem, *]) rfl ?_
                have hE := HP.out L HV2.out.2 _ (((HM0.out.trans ((HMm.out.trans HM8.out).trans HM3.out)).setCell (a := ⟨w.heap.size + 1, 0, none⟩) (by dsimp only; omega) (.int .i64 4)).setCell (a := ⟨w.heap.size + 1, 1, none⟩) (by dsimp only; omega) (.int .i64 k))
                rw [Hck.out] at hE
                exact hE
              | false =>
                have Hno : Hid ((outK p k || boundK p (p.ins k) s) = false) := by show _ = _; rw [← HO.out, Hbd.out]; rfl
                have HMx : Hid (More wm w3) := (HM8.out.trans HM3.out).trans Hrf.out
                have HBx : Hid (Blk w3 wm.heap.size #[.int .i64 op, .int .i64 a, .int .i64 b, .int .i64 ic, .int .i64 n] 67) := (HB8.out.more HM3.out).more Hrf.out
                obtain ⟨U, HU⟩ : ∃ U : World → Prop, Hid (∀ w', U w' ↔ More w3 w') := ⟨_, fun _ => Iff.rfl⟩
                have HU0 : U w3.drew := (HU.out _).2 (More.refl _).drew
                have hneU : Nonempty { w' // U w' } := ⟨⟨_, HU0⟩⟩
                have g0 : ∀ i : { w' // U w' }, i.val.cell? ⟨w.heap.size, 0, none⟩ = some (.slice ra p.rl rc) := fun i => (HMx.out.trans ((HU.out _).1 i.property)).cell p0
                have g1 : ∀ i : { w' // U w' }, i.val.cell? ⟨w.heap.size, 1, none⟩ = some (.slice (some ⟨cb, co, none⟩) cl cc) := fun i => (HMx.out.trans ((HU.out _).1 i.property)).cell p1
                have g2 : ∀ i : { w' // U w' }, i.val.cell? ⟨lb, k * 2 + 1, none⟩ = some (.slice (some ⟨gs, 0, none⟩) 8 cs) := fun i => (HMx.out.trans ((HU.out _).1 i.property)).cell c1
                have g3 : ∀ i : { w' // U w' }, i.val.cell? ⟨wm.heap.size, 0, none⟩ = some (.int .i64 op) := fun i => (HBx.out.more ((HU.out _).1 i.property)).cell rfl
                have g4 : ∀ i : { w' // U w' }, i.val.cell? ⟨wm.heap.size, 1, none⟩ = some (.int .i64 a) := fun i => (HBx.out.more ((HU.out _).1 i.property)).cell rfl
                have g5 : ∀ i : { w' // U w' }, i.val.cell? ⟨wm.heap.size, 2, none⟩ = some (.int .i64 b) := fun i => (HBx.out.more ((HU.out _).1 i.property)).cell rfl
                have g6 : ∀ i : { w' // U w' }, i.val.cell? ⟨wm.heap.size, 3, none⟩ = some (.int .i64 ic) := fun i => (HBx.out.more ((HU.out _).1 i.property)).cell rfl
                have g7 : ∀ i : { w' // U w' }, i.val.cell? ⟨wm.heap.size, 4, none⟩ = some (.int .i64 n) := fun i => (HBx.out.more ((HU.out _).1 i.property)).cell rfl
                go_wp2_with (fail)
                refine wp_region_ord (S := U) [(0, true), (1, true), (2, true), (3, true), (4, true), (5, true), (6, true), (7, false)] (by kernel_rfl) (by kernel_rfl) (by kernel_rfl) HU0 ?_
                iterate 7 (refine wpOrd_take rfl (by kernel_rfl) (fun K hK => ?_); go_simp; refine hK _ _ ?_; clear hK K)
                refine wpOrd_busy rfl (by kernel_rfl) (fun K hK => ?_); go_simp
                refine (Csec.out _ (HMx.out.drew)).mono ?_
                rintro e w9 ⟨rfl, m9⟩
                have HM9 : Hid (More w3 w9) := (More.refl _).drew.trans m9
                have HU9 : U w9 := (HU.out _).2 HM9.out
                clear m9
                cases sc with
                | true =>
                  have Hck : Hid (checkK p L = (5, (k : Int))) := by
                    show _ = _
                    have hf : faultK p k s = 5 := by unfold faultK; rw [Hno.out, Hsc2.out]; rfl
                    rw [Hn2.out, hf]; rfl
                  go_simp
                  refine hK _ _ HU9 ?_; clear hK K
                  refine wpOrd_done ?_
                  clear g0 g1 g2 g3 g4 g5 g6 g7 hneU HU0 HU9
                  have t0 := (HRES.out.more ((HMm.out.trans HMx.out).trans HM9.out)).cell (j := 0) (v := .int .i64 0) rfl
                  have t1 := (HRES.out.more ((HMm.out.trans HMx.out).trans HM9.out)).cell (j := 1) (v := .int .i64 0) rfl
                  have u0 := (HRES.out.more ((HMm.out.trans HMx.out).trans HM9.out)).frozen 0
                  have u1 := (HRES.out.more ((HMm.out.trans HMx.out).trans HM9.out)).frozen 1
                  go_wp2
                  refine bodyPost_ret (v := flt 5 k) (by simp [flt, results, Try.results14, go_sem, *]) rfl ?_
                  have hE := HP.out L HV2.out.2 _ (((HM0.out.trans ((HMm.out.trans HMx.out).trans HM9.out)).setCell (a := ⟨w.heap.size + 1, 0, none⟩) (by dsimp only; omega) (.int .i64 5)).setCell (a := ⟨w.heap.size + 1, 1, none⟩) (by dsimp only; omega) (.int .i64 k))
                  rw [Hck.out] at hE
                  exact hE
                | false =>
                  have Hck : Hid (checkK p L = scanK p L g (k + 1)) := by
                    show _ = _
                    have hf : faultK p k s = 0 := by unfold faultK; rw [Hno.out, Hsc2.out]; rfl
                    rw [Hn2.out, if_pos hf]
                  go_simp
                  refine hK _ _ HU9 ?_; clear hK K
                  refine wpOrd_done ?_
                  clear g0 g1 g2 g3 g4 g5 g6 g7 hneU HU0 HU9
                  go_wp2
                  go_roundg g
                  case measure => omega
                  case rel => exact ⟨k + 1, by omega, by first | rfl | simp, (HMw.out.trans HMx.out).trans HM9.out, Hck.out⟩
/-- Two programs are one. -/
structure Prg.Eq8 (p q : Prg) : Prop where
  rl : p.rl = q.rl
  reg : ∀ i, i < p.rl → p.log i = q.log i ∧ p.sec i = q.sec i
  cl : p.cl = q.cl
  ins : ∀ i, i < p.cl → p.ins i = q.ins i

set_option maxHeartbeats 2000000 in
theorem same8_true (p q : Prg) (l l' : Loc) (w : World) (hp : PIn w p l) (hq : PIn w q l') (h : p.Eq8 q) (hrl : p.rl < 4611686018427387904) (hcl : p.cl < 4611686018427387904) :
    Calls Try.prog 22 #[.agg #[.slice l.ra p.rl l.rc, .slice l.ca p.cl l.cc], .agg #[.slice l'.ra q.rl l'.rc, .slice l'.ca q.cl l'.cc]] w fun e w' => e = .returned (.bool true) ∧ More w w' := by
  have H : Hid (PIn w p l ∧ PIn w q l' ∧ p.Eq8 q) := ⟨hp, hq, h⟩
  rw [← h.rl, ← h.cl]
  clear hp hq h
  obtain ⟨rl, Hrl⟩ : ∃ x, Hid (p.rl = x) := ⟨_, rfl⟩
  obtain ⟨cl, Hcl⟩ : ∃ x, Hid (p.cl = x) := ⟨_, rfl⟩
  obtain ⟨ra, rb, ro, rc, ca, cb, co, cc⟩ := l
  obtain ⟨ra', rb', ro', rc', ca', cb', co', cc'⟩ := l'
  dsimp only
  rw [Hrl.out] at hrl
  rw [Hcl.out] at hcl
  rw [Hrl.out, Hcl.out]
  obtain ⟨W, HW⟩ : ∃ W : World, Hid (W = (w.alloc (.cells #[.slice ra rl rc, .slice ca cl cc] 30)).alloc (.cells #[.slice ra' rl rc', .slice ca' cl cc'] 30)) := ⟨_, rfl⟩
  have HM : Hid (More w W) := by rw [HW.out]; exact ((More.refl _).alloc _ _).alloc _ _
  have b0 : W.cell? ⟨w.heap.size, 0, none⟩ = some (.slice ra rl rc) := by rw [HW.out]; go_simp
  have b1 : W.cell? ⟨w.heap.size, 1, none⟩ = some (.slice ca cl cc) := by rw [HW.out]; go_simp
  have b2 : W.cell? ⟨w.heap.size + 1, 0, none⟩ = some (.slice ra' rl rc') := by rw [HW.out]; go_simp
  have b3 : W.cell? ⟨w.heap.size + 1, 1, none⟩ = some (.slice ca' cl cc') := by rw [HW.out]; go_simp
  have HB : Hid (∀ w', More W w' → w'.cell? ⟨w.heap.size, 0, none⟩ = some (.slice ra rl rc) ∧ w'.cell? ⟨w.heap.size, 1, none⟩ = some (.slice ca cl cc) ∧ w'.cell? ⟨w.heap.size + 1, 0, none⟩ = some (.slice ra' rl rc') ∧ w'.cell? ⟨w.heap.size + 1, 1, none⟩ = some (.slice ca' cl cc')) := fun w' m => ⟨m.cell b0, m.cell b1, m.cell b2, m.cell b3⟩
  go_enter Try.func22, Try.ntmps22
  go_wp2_with (fail)
  rw [← HW.out]
  clear b0 b1 b2 b3
  go_loopg [5] rl (fun g iv wr => ∃ k : Nat, k + g = rl ∧ iv = .int .i64 k ∧ Hid (More W wr))
  case atStart => exact ⟨0, by omega, rfl, More.refl _⟩
  case round =>
    obtain ⟨k, hkg, rfl, Hr⟩ := hrel
    obtain ⟨b0, b1, b2, b3⟩ := HB.out wr Hr.out
    cases gk with
    | zero =>
      obtain rfl : k = rl := by omega
      go_wp2_with (fail)
      go_loopg [6] cl (fun g iv wr => ∃ k : Nat, k + g = cl ∧ iv = .int .i64 k ∧ Hid (More W wr))
      case atStart => exact ⟨0, by omega, rfl, Hr.out⟩
      case round =>
        clear b0 b1 b2 b3
        obtain ⟨j, hjg, rfl, Hs⟩ := hrel
        obtain ⟨b0, b1, b2, b3⟩ := HB.out wr Hs.out
        cases gk with
        | zero =>
          obtain rfl : j = cl := by omega
          go_wp2
          go_ret
          exact ⟨rfl, HM.out.trans Hs.out⟩
        | succ g =>
          have hj : j < cl := by omega
          have hji : (j : Int) < cl := by omega
          have hj63 : wrap64 ((j : Int) + 1) = (j : Int) + 1 := by unfold wrap64; omega
          have hjp : j < p.cl := by rw [Hcl.out]; exact hj
          have q1 := (H.out.1.code.more (HM.out.trans Hs.out)) j hjp
          have q2 := (H.out.2.1.code.more (HM.out.trans Hs.out)) j (by rw [← H.out.2.2.cl]; exact hjp)
          rw [← H.out.2.2.ins j hjp] at q2
          obtain rfl : ca = some ⟨cb, co, none⟩ := H.out.1.hc (by omega)
          obtain rfl : ca' = some ⟨cb', co', none⟩ := H.out.2.1.hc (by rw [← H.out.2.2.cl]; omega)
          dsimp only at q1 q2
          obtain ⟨i, hi⟩ : ∃ i, p.ins j = i := ⟨_, rfl⟩
          rw [hi] at q1 q2
          obtain ⟨op, a, b, c, n⟩ := i
          dsimp only at q1 q2
          obtain ⟨x0, x1, x2, x3, x4⟩ := q1
          obtain ⟨y0, y1, y2, y3, y4⟩ := q2
          clear hi hjp
          obtain ⟨S, HS⟩ : ∃ S : World → Prop, Hid (∀ w', S w' ↔ More wr w') := ⟨_, fun _ => Iff.rfl⟩
          have HS0 : S wr.drew := (HS.out _).2 (More.refl _).drew
          have hne : Nonempty { w' // S w' } := ⟨⟨_, HS0⟩⟩
          have k0 : ∀ i : { w' // S w' }, i.val.cell? ⟨w.heap.size, 1, none⟩ = some (.slice (some ⟨cb, co, none⟩) cl cc) := fun i => ((HS.out _).1 i.property).cell b1
          have k1 : ∀ i : { w' // S w' }, i.val.cell? ⟨w.heap.size + 1, 1, none⟩ = some (.slice (some ⟨cb', co', none⟩) cl cc') := fun i => ((HS.out _).1 i.property).cell b3
          have k2 : ∀ i : { w' // S w' }, i.val.cell? ⟨cb, co + j * 5, none⟩ = some (.int .i64 op) := fun i => ((HS.out _).1 i.property).cell x0
          have k3 : ∀ i : { w' // S w' }, i.val.cell? ⟨cb', co' + j * 5, none⟩ = some (.int .i64 op) := fun i => ((HS.out _).1 i.property).cell y0
          have k4 : ∀ i : { w' // S w' }, i.val.cell? ⟨cb, co + j * 5 + 1, none⟩ = some (.int .i64 a) := fun i => ((HS.out _).1 i.property).cell x1
          have k5 : ∀ i : { w' // S w' }, i.val.cell? ⟨cb', co' + j * 5 + 1, none⟩ = some (.int .i64 a) := fun i => ((HS.out _).1 i.property).cell y1
          have k6 : ∀ i : { w' // S w' }, i.val.cell? ⟨cb, co + j * 5 + 2, none⟩ = some (.int .i64 b) := fun i => ((HS.out _).1 i.property).cell x2
          have k7 : ∀ i : { w' // S w' }, i.val.cell? ⟨cb', co' + j * 5 + 2, none⟩ = some (.int .i64 b) := fun i => ((HS.out _).1 i.property).cell y2
          have k8 : ∀ i : { w' // S w' }, i.val.cell? ⟨cb, co + j * 5 + 3, none⟩ = some (.int .i64 c) := fun i => ((HS.out _).1 i.property).cell x3
          have k9 : ∀ i : { w' // S w' }, i.val.cell? ⟨cb', co' + j * 5 + 3, none⟩ = some (.int .i64 c) := fun i => ((HS.out _).1 i.property).cell y3
          have k10 : ∀ i : { w' // S w' }, i.val.cell? ⟨cb, co + j * 5 + 4, none⟩ = some (.int .i64 n) := fun i => ((HS.out _).1 i.property).cell x4
          have k11 : ∀ i : { w' // S w' }, i.val.cell? ⟨cb', co' + j * 5 + 4, none⟩ = some (.int .i64 n) := fun i => ((HS.out _).1 i.property).cell y4
          go_wp2_with (fail)
          refine wp_region_ord (S := S) [(0, true), (1, true), (2, true), (3, true), (4, true), (5, true), (6, true), (7, true), (8, true), (9, true), (10, true)] (by kernel_rfl) (by kernel_rfl) (by kernel_rfl) HS0 ?_
          iterate 11 (refine wpOrd_take rfl (by kernel_rfl) (fun K hK => ?_); go_simp; refine hK _ _ ?_; clear hK K)
          refine wpOrd_done ?_
          clear hne HS0 k0 k1 k2 k3 k4 k5 k6 k7 k8 k9 k10 k11
          go_wp2
          go_roundg g
          case measure => omega
          case rel => exact ⟨j + 1, by omega, by first | rfl | simp, Hs.out.trans (More.refl _).drew⟩
    | succ g =>
      have hk : k < rl := by omega
      have hki : (k : Int) < rl := by omega
      have hk63 : wrap64 ((k : Int) + 1) = (k : Int) + 1 := by unfold wrap64; omega
      have hkp : k < p.rl := by rw [Hrl.out]; exact hk
      have q1 := (H.out.1.regs.more (HM.out.trans Hr.out)) k hkp
      have q2 := (H.out.2.1.regs.more (HM.out.trans Hr.out)) k (by rw [← H.out.2.2.rl]; exact hkp)
      rw [← (H.out.2.2.reg k hkp).1, ← (H.out.2.2.reg k hkp).2] at q2
      obtain rfl : ra = some ⟨rb, ro, none⟩ := H.out.1.hr (by omega)
      obtain rfl : ra' = some ⟨rb', ro', none⟩ := H.out.2.1.hr (by rw [← H.out.2.2.rl]; omega)
      dsimp only at q1 q2
      obtain ⟨lg, hlg⟩ : ∃ i, p.log k = i := ⟨_, rfl⟩
      obtain ⟨sc, hsc⟩ : ∃ i, p.sec k = i := ⟨_, rfl⟩
      rw [hlg, hsc] at q1 q2
      obtain ⟨x0, x1⟩ := q1
      obtain ⟨y0, y1⟩ := q2
      clear hlg hsc hkp
      obtain ⟨S, HS⟩ : ∃ S : World → Prop, Hid (∀ w', S w' ↔ More wr w') := ⟨_, fun _ => Iff.rfl⟩
      have HS0 : S wr.drew := (HS.out _).2 (More.refl _).drew
      have hne : Nonempty { w' // S w' } := ⟨⟨_, HS0⟩⟩
      have k0 : ∀ i : { w' // S w' }, i.val.cell? ⟨w.heap.size, 0, none⟩ = some (.slice (some ⟨rb, ro, none⟩) rl rc) := fun i => ((HS.out _).1 i.property).cell b0
      have k1 : ∀ i : { w' // S w' }, i.val.cell? ⟨w.heap.size + 1, 0, none⟩ = some (.slice (some ⟨rb', ro', none⟩) rl rc') := fun i => ((HS.out _).1 i.property).cell b2
      have k2 : ∀ i : { w' // S w' }, i.val.cell? ⟨rb, ro + k * 2, none⟩ = some (.int .i64 lg) := fun i => ((HS.out _).1 i.property).cell x0
      have k3 : ∀ i : { w' // S w' }, i.val.cell? ⟨rb, ro + k * 2 + 1, none⟩ = some (.bool sc) := fun i => ((HS.out _).1 i.property).cell x1
      have k4 : ∀ i : { w' // S w' }, i.val.cell? ⟨rb', ro' + k * 2, none⟩ = some (.int .i64 lg) := fun i => ((HS.out _).1 i.property).cell y0
      have k5 : ∀ i : { w' // S w' }, i.val.cell? ⟨rb', ro' + k * 2 + 1, none⟩ = some (.bool sc) := fun i => ((HS.out _).1 i.property).cell y1
      go_wp2_with (fail)
      refine wp_region_ord (S := S) [(0, true), (1, true), (2, true), (3, true), (4, true), (5, true), (6, true), (7, true), (8, true), (9, true), (10, true)] (by kernel_rfl) (by kernel_rfl) (by kernel_rfl) HS0 ?_
      iterate 11 (refine wpOrd_take rfl (by kernel_rfl) (fun K hK => ?_); go_simp; refine hK _ _ ?_; clear hK K)
      refine wpOrd_done ?_
      clear hne HS0 k0 k1 k2 k3 k4 k5
      go_wp2
      go_roundg g
      case measure => omega
      case rel => exact ⟨k + 1, by omega, by first | rfl | simp, Hr.out.trans (More.refl _).drew⟩

/-- The regions of two programs are the same. -/
theorem regions_true (p q : Prg) (l l' : Loc) (w : World) (hp : PIn w p l) (hq : PIn w q l') (hrl : p.rl = q.rl) (hreg : ∀ i, i < p.rl → p.log i = q.log i ∧ p.sec i = q.sec i) (hb : p.rl < 4611686018427387904) :
    Calls Try.prog 24 #[.agg #[.slice l.ra p.rl l.rc, .slice l.ca p.cl l.cc], .agg #[.slice l'.ra q.rl l'.rc, .slice l'.ca q.cl l'.cc]] w fun e w' => e = .returned (.bool true) ∧ More w w' := by
  have C : Hid (∀ w1 : World, More w w1 → Calls Try.prog 22 #[.agg #[.slice l.ra p.rl l.rc, .slice none 0 0], .agg #[.slice l'.ra q.rl l'.rc, .slice none 0 0]] w1 fun e w' => e = .returned (.bool true) ∧ More w1 w') := fun w1 m1 =>
    same8_true ⟨p.rl, p.log, p.sec, 0, p.ins⟩ ⟨q.rl, q.log, q.sec, 0, q.ins⟩ ⟨l.ra, l.rb, l.ro, l.rc, none, 0, 0, 0⟩ ⟨l'.ra, l'.rb, l'.ro, l'.rc, none, 0, 0, 0⟩ w1
      ⟨hp.hr, fun h => absurd h (Nat.lt_irrefl _), hp.regs.more m1, fun i hi => absurd hi (Nat.not_lt_zero _)⟩ ⟨hq.hr, fun h => absurd h (Nat.lt_irrefl _), hq.regs.more m1, fun i hi => absurd hi (Nat.not_lt_zero _)⟩
      ⟨hrl, hreg, rfl, fun i hi => absurd hi (Nat.not_lt_zero _)⟩ hb (by simp)
  clear hp hq hrl hreg hb
  obtain ⟨a1, h1⟩ : ∃ x, Value.slice l.ra p.rl l.rc = x := ⟨_, rfl⟩
  obtain ⟨a2, n2, c2, h2⟩ : ∃ a n c, Value.slice l.ca p.cl l.cc = .slice a n c := ⟨_, _, _, rfl⟩
  obtain ⟨a4, n4, c4, h4⟩ : ∃ a n c, Value.slice l'.ca q.cl l'.cc = .slice a n c := ⟨_, _, _, rfl⟩
  obtain ⟨a5, n5, c5, h5⟩ : ∃ a n c, Value.slice l.ra p.rl l.rc = .slice a n c := ⟨_, _, _, rfl⟩
  obtain ⟨a6, n6, c6, h6⟩ : ∃ a n c, Value.slice l'.ra q.rl l'.rc = .slice a n c := ⟨_, _, _, rfl⟩
  rw [h5, h6] at C
  rw [h5, h6, h2, h4]
  clear h1 h2 h4 h5 h6
  go_enter Try.func24, Try.ntmps24
  go_wp2_with (fail)
  refine (C.out _ ((((More.refl _).alloc _ _).alloc _ _).alloc _ _ |>.alloc _ _)).mono ?_
  rintro e w1 ⟨rfl, m1⟩
  have Hm1 : Hid (More w w1) := ((((More.refl _).alloc _ _).alloc _ _).alloc _ _ |>.alloc _ _).trans m1
  clear m1
  go_wp2
  go_ret
  exact ⟨rfl, Hm1.out⟩
/-- evenkeelref6.Check, whatever the program. -/
theorem check6_told (p : Prg) (l : Loc) (w : World) (hp : PIn w p l) (hf : p.Fit) :
    Calls Try.prog 14 #[.agg #[.slice l.ra p.rl l.rc, .slice l.ca p.cl l.cc]] w fun e w' => ∃ f : Int × Int, Told p f ∧ e = .returned (.agg #[.int .i64 f.1, .int .i64 f.2]) ∧ More w w' := by
  by_cases hok : p.Ok 200 8
  · refine (check6_ok p l w hp hok (fun i hi => (hf.ins i hi).2.2.2.2) (fun w1 m1 => may_true p l w1 (hp.more m1) hok)).mono ?_
    rintro e w' ⟨l', h1, rfl, m⟩
    exact ⟨_, .inr ⟨hok, l', h1, rfl⟩, rfl, m⟩
  · refine (check6_form _ _ ⟨_, _, _, rfl⟩ ⟨_, _, _, rfl⟩ w (fun w2 m2 => ?_)).mono (fun e w' ⟨h1, h2⟩ => ⟨(2, 0), .inl ⟨hok, rfl⟩, h1, h2⟩)
    refine (ref_may p l _ (hp.more m2)).mono ?_
    rintro e w' ⟨r, rfl, hr, m⟩
    cases r with
    | false => exact ⟨rfl, m⟩
    | true => exact absurd (hr.1 rfl) hok
theorem hard_true (p : Prg) (l : Loc) (w : World) (hp : PIn w p l) (hok : p.Ok 8000 10) :
    Calls Try.prog 23 #[.agg #[.slice l.ra p.rl l.rc, .slice l.ca p.cl l.cc]] w fun e w' => e = .returned (.bool true) ∧ More w w' := by
  refine (ref_hard p l _ hp).mono ?_
  rintro e w' ⟨r, rfl, hr, m⟩
  cases r with
  | true => exact ⟨rfl, m⟩
  | false => exact absurd (hr.2 hok) (by simp)

/-- Hard, and with the same regions. -/
structure Like8 (p h : Prg) : Prop where
  ok : h.Ok 8000 10
  fit : h.Fit
  rl : p.rl = h.rl
  reg : ∀ i, i < p.rl → p.log i = h.log i ∧ p.sec i = h.sec i
end
section
open Go.RowKit
set_option linter.unusedSimpArgs false
set_option linter.unusedVariables false
section
variable {p h : Prg} {st : Nat → Nat} {X : Int} {l : KV} {m : Mem} {s t : St}

theorem Hdn.lt (S : Hdn p h st X) {k o : Nat} (hk : k < p.cl) (ho : o < sizeK p k) : st k + o < h.cl := by
  have := S.mono p.cl k hk (Nat.le_refl _)
  rw [S.cl]; omega

end
section
variable {p h : Prg} {st : Nat → Nat} {X : Int}

/-- Each instruction of it comes from one. -/
theorem Hdn.from_ (S : Hdn p h st X) : ∀ (n : Nat), n ≤ p.cl → ∀ q, q < st n → ∃ k o, k < n ∧ o < sizeK p k ∧ q = st k + o
  | 0, _, q, hq => by rw [S.s0] at hq; omega
  | n + 1, hn, q, hq => by
    have e := S.next n (by omega)
    by_cases c : q < st n
    · obtain ⟨k, o, h1, h2, h3⟩ := S.from_ n (by omega) q c
      exact ⟨k, o, by omega, h2, h3⟩
    · exact ⟨n, q - st n, by omega, by omega, by omega⟩
theorem Hdn.most (S : Hdn p h st X) : ∀ (n : Nat), n ≤ p.cl → n ≤ st n ∧ st n ≤ 3 * n
  | 0, _ => by rw [S.s0]; omega
  | n + 1, hn => by
    have e := S.next n (by omega)
    have := S.most n (by omega)
    have := sizeK_pos p n
    omega

theorem insOk_up {rl : Nat} {log log' : Nat → Int} {cl cl' : Nat} {i : Ins} (hi : InsOk rl log cl 8 i) (hl : ∀ c, c < rl → log c = log' c) (h7 : ¬ (i.op = 7 ∨ i.op = 8)) : InsOk rl log' cl' 10 i := by
  have up : ∀ x, Reg 8 x → Reg 10 x := fun x q => by unfold Reg at *; omega
  have wd : ∀ c n, Rgn rl c → Wrd log c n → Wrd log' c n := fun c n q w => by
    unfold Rgn at q
    unfold Wrd at *
    rw [← hl c.toNat (by omega)]; exact w
  unfold InsOk at *
  by_cases q1 : i.op = 1
  · rw [if_pos q1] at *; exact ⟨up _ hi.1, hi.2⟩
  rw [if_neg q1] at *
  by_cases q2 : i.op = 2
  · rw [if_pos q2] at *; exact ⟨up _ hi.1, up _ hi.2.1, hi.2.2⟩
  rw [if_neg q2] at *
  by_cases q3 : i.op = 3
  · rw [if_pos q3] at *; exact ⟨up _ hi.1, up _ hi.2.1, hi.2.2⟩
  rw [if_neg q3] at *
  by_cases q4 : i.op = 4
  · rw [if_pos q4] at *; exact ⟨up _ hi.1, up _ hi.2.1, hi.2.2⟩
  rw [if_neg q4] at *
  by_cases q5 : i.op = 5
  · rw [if_pos q5] at *; exact ⟨up _ hi.1, hi.2.1, hi.2.2.1, wd _ _ hi.2.2.1 hi.2.2.2⟩
  rw [if_neg q5] at *
  by_cases q6 : i.op = 6
  · rw [if_pos q6] at *; exact ⟨up _ hi.1, hi.2.1, hi.2.2.1, wd _ _ hi.2.2.1 hi.2.2.2⟩
  rw [if_neg q6, if_neg (fun q => h7 (.inl q)), if_neg (fun q => h7 (.inr q))] at *
  by_cases q9 : i.op = 9
  · rw [if_pos q9] at *; exact ⟨up _ hi.1, hi.2⟩
  rw [if_neg q9] at *
  by_cases q10 : i.op = 10
  · rw [if_pos q10] at *; exact ⟨up _ hi.1, up _ hi.2.1, hi.2.2⟩
  rw [if_neg q10] at *
  by_cases q11 : i.op = 11
  · rw [if_pos q11] at *; exact ⟨up _ hi.1, hi.2⟩
  rw [if_neg q11] at *
  by_cases q12 : i.op = 12
  · rw [if_pos q12] at *; exact hi
  rw [if_neg q12] at *
  exact ⟨hi.1, up _ hi.2.1, up _ hi.2.2.1, up _ hi.2.2.2.1, hi.2.2.2.2⟩

theorem hd_ins (S : Hdn p h st X) (ok : p.Ok 200 8) (hf : p.Fit) (q : Nat) (hq : q < h.cl) : InsOk h.rl h.log h.cl 10 (h.ins q) ∧ (h.ins q).fits := by
  rw [S.cl] at hq
  obtain ⟨k, o, hk, ho, rfl⟩ := S.from_ p.cl (Nat.le_refl _) q hq
  have hi := ok.2.2.2 k hk
  have hfit := hf.ins k hk
  unfold Ins.fits at hfit
  have hX : Reg 10 X := by unfold Reg; rcases S.x with e | e <;> omega
  have iX : I64 X := by unfold I64; rcases S.x with e | e <;> omega
  have i0 : I64 0 := by unfold I64; omega
  rw [← S.rl]
  have small := S.most p.cl (Nat.le_refl _)
  have c200 := ok.2.2.1
  by_cases m : (p.ins k).op = 3 ∨ (p.ins k).op = 4
  · rw [sizeK_mem m] at ho
    obtain ⟨m0, m1, m2⟩ := S.mem k hk m
    have hr : Reg 8 (p.ins k).a ∧ Reg 8 (p.ins k).b ∧ Rgn p.rl (p.ins k).c := by unfold InsOk at hi; rcases m with m | m <;> simpa [m] using hi
    obtain ⟨ra, rb, rc⟩ := hr
    have hcr : (p.ins k).c.toNat < p.rl := by unfold Rgn at rc; omega
    have hlog := ok.1.2 _ hcr
    have h64 := two_pow_le (k := (p.log (p.ins k).c.toNat).toNat) (by omega)
    have ra' : Reg 10 (p.ins k).a := by unfold Reg at *; omega
    have rb' : Reg 10 (p.ins k).b := by unfold Reg at *; omega
    have hoo : o = 0 ∨ o = 1 ∨ o = 2 := by omega
    rcases hoo with rfl | rfl | rfl
    · rw [Nat.add_zero, m0]
      refine ⟨?_, ⟨by unfold I64; dsimp only; omega, iX, hfit.2.2.1, i0, hfit.2.2.2.2⟩⟩
      unfold InsOk
      simp
      exact ⟨hX, rb'⟩
    · rw [m1]
      refine ⟨?_, ⟨by unfold I64; dsimp only; omega, iX, i0, i0, by unfold I64 wordsI; dsimp only; omega⟩⟩
      unfold InsOk
      simp
      exact ⟨hX, by unfold wordsI; omega⟩
    · rw [m2]
      refine ⟨?_, ⟨hfit.1, hfit.2.1, iX, hfit.2.2.2.1, i0⟩⟩
      unfold InsOk
      rcases m with m | m <;> simp [m] <;> exact ⟨ra', hX, rc⟩
  · rw [sizeK_one m] at ho
    obtain rfl : o = 0 := by omega
    rw [Nat.add_zero]
    by_cases w : (p.ins k).op = 7 ∨ (p.ins k).op = 8
    · rw [S.go k hk w]
      have hn : Plc p.cl (p.ins k).n := by unfold InsOk at hi; rcases w with w | w <;> simp [w] at hi <;> simp [hi]
      unfold Plc at hn
      have hn2 : (p.ins k).n.toNat < p.cl := by omega
      have hlt := S.lt (o := 0) hn2 (sizeK_pos p _).1
      rw [Nat.add_zero] at hlt
      have hcl := S.cl
      have hP : Plc h.cl (st (p.ins k).n.toNat : Int) := by unfold Plc; omega
      refine ⟨?_, ⟨hfit.1, hfit.2.1, hfit.2.2.1, hfit.2.2.2.1, by unfold I64; dsimp only; omega⟩⟩
      unfold InsOk Reg at hi
      unfold InsOk Reg
      rcases w with w | w <;> simp [w] at hi <;> simp [w, hP]
      · exact ⟨hi.1, hi.2.1, hi.2.2.1⟩
      · omega
    · rw [S.copy k hk m w]
      exact ⟨insOk_up hi (fun c hc => (S.reg c hc).1) w, hfit⟩

theorem hd_like (S : Hdn p h st X) (ok : p.Ok 200 8) (hf : p.Fit) : Like8 p h := by
  have small := S.most p.cl (Nat.le_refl _)
  have c200 := ok.2.2.1
  have c1 := ok.2.1
  have hcl := S.cl
  refine ⟨⟨⟨by rw [← S.rl]; exact ok.1.1, fun i hi => ?_⟩, by omega, by omega, fun q hq => (hd_ins S ok hf q hq).1⟩, ⟨by rw [← S.rl]; exact hf.rl, ?_, fun i hi => ?_, fun q hq => (hd_ins S ok hf q hq).2⟩, S.rl, S.reg⟩
  · rw [← (S.reg i (by rw [S.rl]; exact hi)).1]; exact ok.1.2 i (by rw [S.rl]; exact hi)
  · have : 600 ≤ maxLen := by decide
    omega
  · rw [← (S.reg i (by rw [S.rl]; exact hi)).1]; exact hf.log i (by rw [S.rl]; exact hi)

end
end
section
open Go.RowKit
set_option linter.unusedSimpArgs false
set_option linter.unusedVariables false
set_option maxRecDepth 8000
/-- A program's values. -/
abbrev prgV (p : Prg) (l : Loc) : Value := .agg #[.slice l.ra p.rl l.rc, .slice l.ca p.cl l.cc]

theorem RegsAt.other {w : World} {b o rl : Nat} {log : Nat → Int} {sec : Nat → Bool} (h : RegsAt w b o rl log sec) {b' : Nat} (hb : b' ≠ b) (o' : Nat) (v : Value) : RegsAt (w.setCell ⟨b', o', none⟩ v) b o rl log sec := fun i hi =>
  ⟨by rw [World.cell?_setCell_other _ _ _ _ (by intro e; simp only [Addr.mk.injEq] at e; exact hb e.1)]; exact (h i hi).1, by rw [World.cell?_setCell_other _ _ _ _ (by intro e; simp only [Addr.mk.injEq] at e; exact hb e.1)]; exact (h i hi).2⟩
theorem CodeAt.other {w : World} {b o cl : Nat} {ins : Nat → Ins} (h : CodeAt w b o cl ins) {b' : Nat} (hb : b' ≠ b) (o' : Nat) (v : Value) : CodeAt (w.setCell ⟨b', o', none⟩ v) b o cl ins := fun i hi => by
  have k : ∀ x, (w.setCell ⟨b', o', none⟩ v).cell? ⟨b, x, none⟩ = w.cell? ⟨b, x, none⟩ := fun x => World.cell?_setCell_other _ _ _ _ (by intro e; simp only [Addr.mk.injEq] at e; exact hb e.1)
  rw [k, k, k, k, k]
  exact h i hi

/-- What Make tells. -/
def Made (p : Prg) (w : World) (e : Ending) (w' : World) : Prop :=
  ∃ f : Int × Int, Told p f ∧ More w w' ∧
    ((f.1 = 0 ∧ ∃ lh : Loc, PIn w' (hardP p) lh ∧ e = .returned (.tuple #[prgV (hardP p) lh, .agg #[.int .i64 0, .int .i64 0]])) ∨
     (¬ f.1 = 0 ∧ e = .returned (.tuple #[.agg #[.slice none 0 0, .slice none 0 0], .agg #[.int .i64 f.1, .int .i64 f.2]])))

set_option maxHeartbeats 2000000 in
theorem make_calls (p : Prg) (l : Loc) (w : World) (hp : PIn w p l) (hf : p.Fit) : Calls Try.prog 21 #[prgV p l] w (Made p w) := by
  unfold prgV
  have C1 : Hid (∀ w1 : World, More w w1 → Calls Try.prog 13 #[.agg #[.slice l.ra p.rl l.rc, .slice l.ca p.cl l.cc]] w1 fun e w' => ∃ f : Int × Int, Told p f ∧ e = .returned (.agg #[.int .i64 f.1, .int .i64 f.2]) ∧ More w1 w') := fun w1 m1 => check_told p l w1 (hp.more m1) hf
  have C2 : Hid (p.Ok 200 8 → ∀ w1 : World, More w w1 → Calls Try.prog 47 #[.slice l.ra p.rl l.rc] w1 fun e w' => ∃ (a' : Option Addr) (g c' : Nat), e = .returned (.slice a' p.rl c') ∧ (0 < p.rl → a' = some ⟨g, 0, none⟩) ∧ w1.heap.size ≤ g ∧ RegsAt w' g 0 p.rl p.log p.sec ∧ More w1 w') := fun ok w1 m1 =>
    clone_calls l.ra p.rl l.rc l.rb l.ro p.log p.sec w1 hp.hr (hp.regs.more m1) ok.1.1
  have C3 : Hid (p.Ok 200 8 → ∀ w1 : World, More w w1 → Calls Try.prog 48 #[.agg #[.slice l.ra p.rl l.rc, .slice l.ca p.cl l.cc]] w1 fun e w' => ∃ gc cap, e = .returned (.slice (some ⟨gc, 0, none⟩) (startL p p.cl) cap) ∧ w1.heap.size ≤ gc ∧ CodeAt w' gc 0 (startL p p.cl) (hardL p) ∧ More w1 w') := fun ok w1 m1 => hardened_calls p l w1 (hp.more m1) ok
  clear hp hf
  obtain ⟨ra, Hra⟩ : ∃ x, Hid (l.ra = x) := ⟨_, rfl⟩
  obtain ⟨rl, Hrl⟩ : ∃ x, Hid (p.rl = x) := ⟨_, rfl⟩
  obtain ⟨rc, Hrc⟩ : ∃ x, Hid (l.rc = x) := ⟨_, rfl⟩
  obtain ⟨ca, Hca⟩ : ∃ x, Hid (l.ca = x) := ⟨_, rfl⟩
  obtain ⟨cl, Hcl⟩ : ∃ x, Hid (p.cl = x) := ⟨_, rfl⟩
  obtain ⟨cc, Hcc⟩ : ∃ x, Hid (l.cc = x) := ⟨_, rfl⟩
  obtain ⟨sn, Hsn⟩ : ∃ x, Hid (startL p p.cl = x) := ⟨_, rfl⟩
  rw [Hsn.out] at C3
  rw [Hra.out, Hrl.out, Hrc.out, Hca.out, Hcl.out, Hcc.out] at C1 C3 ⊢
  rw [Hra.out, Hrl.out, Hrc.out] at C2
  go_enter Try.func21, Try.ntmps21
  obtain ⟨W0, HW0⟩ : ∃ W : World, Hid (W = ((w.alloc (.cells #[.slice ra rl rc, .slice ca cl cc] 30)).alloc (.cells #[.slice none 0 0, .slice none 0 0] 30)).alloc (.cells #[.int .i64 0, .int .i64 0] 33)) := ⟨_, rfl⟩
  have Hm0 : Hid (More w W0) := HW0.out ▸ (((More.refl _).alloc _ _).alloc _ _).alloc _ _
  have B0 : Hid (Blk W0 w.heap.size #[.slice ra rl rc, .slice ca cl cc] 30) := HW0.out ▸ (((Blk.last _ _ _).alloc _ _).alloc _ _)
  have B1 : Hid (Blk W0 (w.heap.size + 1) #[.slice none 0 0, .slice none 0 0] 30) := HW0.out ▸ ((by simpa using Blk.last (w.alloc (.cells #[.slice ra rl rc, .slice ca cl cc] 30)) #[.slice none 0 0, .slice none 0 0] 30 : Blk _ (w.heap.size + 1) _ _).alloc _ _)
  have B2 : Hid (Blk W0 (w.heap.size + 1 + 1) #[.int .i64 0, .int .i64 0] 33) := HW0.out ▸ (by simpa using Blk.last ((w.alloc (.cells #[.slice ra rl rc, .slice ca cl cc] 30)).alloc (.cells #[.slice none 0 0, .slice none 0 0] 30)) #[.int .i64 0, .int .i64 0] 33 : Blk _ (w.heap.size + 1 + 1) _ _)
  go_wp2_with (fail)
  rw [← HW0.out]
  refine (C1.out W0 Hm0.out).mono ?_
  rintro e w1 ⟨⟨f1, f2⟩, hT, rfl, m1⟩
  dsimp only
  have HT : Hid (Told p (f1, f2)) := hT
  have Hm1 : Hid (More W0 w1) := m1
  clear hT m1 C1
  obtain ⟨W, HW⟩ : ∃ W : World, Hid (W = w1.alloc (.cells #[.int .i64 f1, .int .i64 f2] 33)) := ⟨_, rfl⟩
  have HmW : Hid (More W0 W) := by rw [HW.out]; exact Hm1.out.alloc _ _
  have D0 : Hid (Blk W w.heap.size #[.slice ra rl rc, .slice ca cl cc] 30) := B0.out.more HmW.out
  have D1 : Hid (Blk W (w.heap.size + 1) #[.slice none 0 0, .slice none 0 0] 30) := B1.out.more HmW.out
  have D2 : Hid (Blk W (w.heap.size + 1 + 1) #[.int .i64 0, .int .i64 0] 33) := B2.out.more HmW.out
  have D3 : Hid (Blk W w1.heap.size #[.int .i64 f1, .int .i64 f2] 33) := by rw [HW.out]; exact Blk.last _ _ _
  have Hz1 : Hid (w.heap.size + 3 ≤ w1.heap.size) := by
    have h1 := (B2.out.more Hm1.out).lt
    show _ ≤ _
    omega
  by_cases h0 : f1 = 0
  · subst h0
    obtain ⟨hok, lk, hk, hk0⟩ := HT.out.ok rfl
    have HO : Hid (p.Ok 200 8) := hok
    clear hok hk hk0
    have C2' : Hid (∀ w1 : World, More w w1 → Calls Try.prog 47 #[.slice ra rl rc] w1 fun e w' => ∃ (a' : Option Addr) (g c' : Nat), e = .returned (.slice a' rl c') ∧ (0 < rl → a' = some ⟨g, 0, none⟩) ∧ w1.heap.size ≤ g ∧ RegsAt w' g 0 rl p.log p.sec ∧ More w1 w') := C2.out HO.out
    have C3' : Hid (∀ w1 : World, More w w1 → Calls Try.prog 48 #[.agg #[.slice ra rl rc, .slice ca cl cc]] w1 fun e w' => ∃ gc cap, e = .returned (.slice (some ⟨gc, 0, none⟩) sn cap) ∧ w1.heap.size ≤ gc ∧ CodeAt w' gc 0 sn (hardL p) ∧ More w1 w') := C3.out HO.out
    clear C2 C3
    obtain ⟨S, HS⟩ : ∃ S : World → Prop, Hid (∀ w', S w' ↔ Blk w' w.heap.size #[.slice ra rl rc, .slice ca cl cc] 30) := ⟨_, fun _ => Iff.rfl⟩
    have HS0 : S W.drew := (HS.out _).2 D0.out
    have k0 : ∀ i : { w' // S w' }, i.val.cell? ⟨w.heap.size, 0, none⟩ = some (.slice ra rl rc) := fun i => ((HS.out _).1 i.property).cell rfl
    have k1 : ∀ i : { w' // S w' }, i.val.cell? ⟨w.heap.size, 1, none⟩ = some (.slice ca cl cc) := fun i => ((HS.out _).1 i.property).cell rfl
    have hne : Nonempty { w' // S w' } := ⟨⟨_, HS0⟩⟩
    go_wp2_with (fail)
    rw [← HW.out]
    refine wp_region_ord (S := S) [(0, true), (1, true), (3, true), (6, true), (2, false), (4, false), (5, true), (7, false), (8, false)] (by kernel_rfl) (by kernel_rfl) (by kernel_rfl) HS0 ?_
    iterate 4 (refine wpOrd_take rfl (by kernel_rfl) (fun K hK => ?_); go_simp; refine hK _ _ ?_; clear hK K)
    refine wpOrd_busy rfl (by kernel_rfl) (fun K hK => ?_); go_simp
    have HmD : Hid (More w W.drew) := (Hm0.out.trans HmW.out).drew
    refine (C2'.out _ HmD.out).mono ?_
    rintro e w2 ⟨a', g, c', rfl, ha', hg, hregs, m2⟩
    have Hm2 : Hid (More W w2) := (More.refl W).drew.trans m2
    have Hreg2 : Hid ((0 < rl → a' = some ⟨g, 0, none⟩) ∧ W.heap.size ≤ g ∧ RegsAt w2 g 0 rl p.log p.sec) := ⟨ha', hg, hregs⟩
    clear ha' hg hregs m2
    go_simp
    refine hK _ _ ((HS.out _).2 (D0.out.more Hm2.out)) ?_; clear hK K
    refine wpOrd_busy rfl (by kernel_rfl) (fun K hK => ?_); go_simp
    refine (C3'.out w2 ((Hm0.out.trans HmW.out).trans Hm2.out)).mono ?_
    rintro e w3 ⟨gc, cap, rfl, hgc, hcode, m3⟩
    have Hm3 : Hid (More W w3) := Hm2.out.trans m3
    have Hreg3 : Hid (RegsAt w3 g 0 rl p.log p.sec) := Hreg2.out.2.2.more m3
    have Hcode3 : Hid (W.heap.size ≤ gc ∧ CodeAt w3 gc 0 sn (hardL p)) := ⟨Nat.le_trans Hm2.out.size hgc, hcode⟩
    clear hgc hcode m3
    have E1 : Hid (Blk w3 (w.heap.size + 1) #[.slice none 0 0, .slice none 0 0] 30) := D1.out.more Hm3.out
    have E2 : Hid (Blk w3 (w.heap.size + 1 + 1) #[.int .i64 0, .int .i64 0] 33) := D2.out.more Hm3.out
    have a0 : w3.cell? ⟨w.heap.size + 1, 0, none⟩ = some (.slice none 0 0) := E1.out.cell rfl
    have a1 : w3.cell? ⟨w.heap.size + 1, 1, none⟩ = some (.slice none 0 0) := E1.out.cell rfl
    have a2 : w3.cell? ⟨w.heap.size + 1 + 1, 0, none⟩ = some (.int .i64 0) := E2.out.cell rfl
    have a3 : w3.cell? ⟨w.heap.size + 1 + 1, 1, none⟩ = some (.int .i64 0) := E2.out.cell rfl
    have z0 := E1.out.frozen 0
    have z1 := E1.out.frozen 1
    have z2 := E2.out.frozen 0
    have z3 := E2.out.frozen 1
    go_simp
    refine hK _ _ ((HS.out _).2 (D0.out.more Hm3.out)) ?_; clear hK K
    refine wpOrd_take rfl (by kernel_rfl) (fun K hK => ?_); go_simp; refine hK _ _ ?_; clear hK K
    refine wpOrd_busy rfl (by kernel_rfl) (fun K hK => ?_); go_simp
    refine hK _ _ ((HS.out _).2 (((D0.out.more Hm3.out).other (by omega) _ _).other (by omega) _ _)) ?_; clear hK K
    refine wpOrd_busy rfl (by kernel_rfl) (fun K hK => ?_); go_simp
    refine hK _ _ ((HS.out _).2 (((((D0.out.more Hm3.out).other (by omega) _ _).other (by omega) _ _).other (by omega) _ _).other (by omega) _ _)) ?_; clear hK K
    refine wpOrd_done ?_
    clear k0 k1 hne HS0
    go_wp2
    refine bodyPost_ret (v := .tuple #[.agg #[.slice a' rl c', .slice (some ⟨gc, 0, none⟩) sn cap], .agg #[.int .i64 0, .int .i64 0]]) (by simp [results, Try.results21, go_sem, *]) rfl ?_
    have hzW := HmW.out.size
    have hz0 := (D2.out).lt
    have hg := Hreg2.out.2.1
    have hgc := Hcode3.out.1
    refine ⟨(0, f2), HT.out, ?_, .inl ⟨rfl, ⟨a', g, 0, c', some ⟨gc, 0, none⟩, gc, 0, cap⟩, ⟨?_, fun _ => rfl, ?_, ?_⟩, ?_⟩⟩
    · exact ((((((Hm0.out.trans HmW.out).trans Hm3.out).setCell (by show w.heap.size ≤ _; simp) _).setCell (by show w.heap.size ≤ _; simp) _).setCell (by show w.heap.size ≤ _; simp; omega) _).setCell (by show w.heap.size ≤ _; simp; omega) _)
    · intro h
      exact Hreg2.out.1 (by rw [← Hrl.out]; exact h)
    · have := (((Hreg3.out.other (b' := w.heap.size + 1) (by omega) 0 (.slice a' rl c')).other (b' := w.heap.size + 1) (by omega) 1 (.slice (some ⟨gc, 0, none⟩) sn cap)).other (b' := w.heap.size + 1 + 1) (by omega) 0 (.int .i64 0)).other (b' := w.heap.size + 1 + 1) (by omega) 1 (.int .i64 0)
      rw [← Hrl.out] at this ⊢
      exact this
    · have := (((Hcode3.out.2.other (b' := w.heap.size + 1) (by omega) 0 (.slice a' rl c')).other (b' := w.heap.size + 1) (by omega) 1 (.slice (some ⟨gc, 0, none⟩) sn cap)).other (b' := w.heap.size + 1 + 1) (by omega) 0 (.int .i64 0)).other (b' := w.heap.size + 1 + 1) (by omega) 1 (.int .i64 0)
      rw [← Hsn.out] at this ⊢
      exact this
    · unfold prgV hardP
      dsimp only
      rw [Hrl.out, Hsn.out]
  · have e0 : (f1 == 0) = false := by simp [h0]
    have e1 : (f1 != 0) = true := by simp [h0]
    have H0 : Hid (¬ f1 = 0) := h0
    clear h0 C2 C3
    obtain ⟨S, HS⟩ : ∃ S : World → Prop, Hid (∀ w', S w' ↔ Blk w' w1.heap.size #[.int .i64 f1, .int .i64 f2] 33) := ⟨_, fun _ => Iff.rfl⟩
    have HS0 : S W.drew := (HS.out _).2 D3.out
    have k0 : ∀ i : { w' // S w' }, i.val.cell? ⟨w1.heap.size, 0, none⟩ = some (.int .i64 f1) := fun i => ((HS.out _).1 i.property).cell rfl
    have k1 : ∀ i : { w' // S w' }, i.val.cell? ⟨w1.heap.size, 1, none⟩ = some (.int .i64 f2) := fun i => ((HS.out _).1 i.property).cell rfl
    have hne : Nonempty { w' // S w' } := ⟨⟨_, HS0⟩⟩
    have hz1 := Hz1.out
    have a0 : W.cell? ⟨w.heap.size + 1, 0, none⟩ = some (.slice none 0 0) := D1.out.cell rfl
    have a1 : W.cell? ⟨w.heap.size + 1, 1, none⟩ = some (.slice none 0 0) := D1.out.cell rfl
    have a2 : W.cell? ⟨w.heap.size + 1 + 1, 0, none⟩ = some (.int .i64 0) := D2.out.cell rfl
    have a3 : W.cell? ⟨w.heap.size + 1 + 1, 1, none⟩ = some (.int .i64 0) := D2.out.cell rfl
    have z0 := D1.out.frozen 0
    have z1 := D1.out.frozen 1
    have z2 := D2.out.frozen 0
    have z3 := D2.out.frozen 1
    go_wp2_with (fail)
    rw [← HW.out]
    refine wp_region_ord (S := S) [(0, true), (1, true), (2, false), (3, false)] (by kernel_rfl) (by kernel_rfl) (by kernel_rfl) HS0 ?_
    iterate 2 (refine wpOrd_take rfl (by kernel_rfl) (fun K hK => ?_); go_simp; refine hK _ _ ?_; clear hK K)
    refine wpOrd_busy rfl (by kernel_rfl) (fun K hK => ?_); go_simp
    refine hK _ _ ((HS.out _).2 ((D3.out.other (by omega) _ _).other (by omega) _ _)) ?_; clear hK K
    refine wpOrd_busy rfl (by kernel_rfl) (fun K hK => ?_); go_simp
    refine hK _ _ ((HS.out _).2 ((((D3.out.other (by omega) _ _).other (by omega) _ _).other (by omega) _ _).other (by omega) _ _)) ?_; clear hK K
    refine wpOrd_done ?_
    clear k0 k1 hne HS0
    go_wp2
    refine bodyPost_ret (v := .tuple #[.agg #[.slice none 0 0, .slice none 0 0], .agg #[.int .i64 f1, .int .i64 f2]]) (by simp [results, Try.results21, go_sem, *]) rfl ?_
    refine ⟨(f1, f2), HT.out, ?_, .inr ⟨H0.out, rfl⟩⟩
    exact (((((Hm0.out.trans HmW.out).setCell (by show w.heap.size ≤ _; simp) _).setCell (by show w.heap.size ≤ _; simp) _).setCell (by show w.heap.size ≤ _; simp; omega) _).setCell (by show w.heap.size ≤ _; simp; omega) _).drew
/-- The hardened program of one without fault. -/
def HardOf (p h : Prg) : Prop := p.Ok 200 8 ∧ (∃ lk, Known p lk ∧ (checkK p lk).1 = 0) ∧ h = hardP p

theorem hardOf_like {p h : Prg} (hf : p.Fit) (k : HardOf p h) : Like8 p h := by
  obtain ⟨ok, ⟨lk, hk, hc⟩, rfl⟩ := k
  exact hd_like (hardP_hdn p) ok hf
end
end Go.Proofs.Ytnppcfkmiddaeab
