/-
  Proved: for every program, such as may not be among them, FenceMakes returns true (Make tells the check's fault and no program, or makes one that is hard, with the same regions, of at most four instructions for each, without more masks) and leaves its argument as it was; no conditions.
-/
import Derived.Test.YtmpafeoileonjaaRows
import Derived.WalkKit
import Derived.ProofKit
import Derived.OpenShut
import Derived.Test.YtmpafeoileonjaaJoined9
import Derived.Test.YtmpafeoileonjaaJoined8
import Derived.Test.YtmpafeoileonjaaJoined4
namespace Go.Proofs.Ytmpafeoileonjaa
open Go.ChangeShapes Go.WideShapes Go.ChangeAt Go.RowKit Go.Deep
set_option linter.unusedVariables false
set_option linter.unusedSimpArgs false
set_option maxRecDepth 8000

namespace fenceMakes

theorem own : ownKnob Try.prog.godebug = none := by kernel_rfl
theorem laidOut : laidOutB Try.prog = true := by kernel_rfl

theorem scan_zero {p : Prg} {l : KV} : ∀ n at_, (scanK p l n at_).1 = 0 → (scanK p l n at_).2 = 0
  | 0, at_, _ => rfl
  | n + 1, at_, h => by
    rw [scanK] at h ⊢
    cases e : l at_ with
    | none => rw [e] at h; exact scan_zero n (at_ + 1) h
    | some s =>
      rw [e] at h
      dsimp only at h ⊢
      by_cases h0 : faultK p at_ s = 0
      · rw [if_pos h0] at h ⊢; exact scan_zero n (at_ + 1) h
      · rw [if_neg h0] at h; exact absurd h h0
theorem told_zero {p : Prg} {f : Int × Int} (h : Told p f) (h0 : f.1 = 0) : f.2 = 0 := by
  rcases h with ⟨_, rfl⟩ | ⟨_, l, _, rfl⟩
  · exact absurd h0 (by decide)
  · exact scan_zero p.cl 0 h0

set_option maxHeartbeats 4000000 in
theorem walk (p : Prg) (l : Loc) (w : World) (hp : PIn w p l) (hf : p.Fit) :
    Calls Try.prog 3 #[.agg #[.slice l.ra p.rl l.rc, .slice l.ca p.cl l.cc]] w fun e w' => e = .returned (.bool true) ∧ More w w' := by
  suffices hP : ∀ P : Ending → World → Prop, (∀ w', More w w' → P (.returned (.bool true)) w') → Calls Try.prog 3 #[.agg #[.slice l.ra p.rl l.rc, .slice l.ca p.cl l.cc]] w P from hP _ (fun w' m => ⟨rfl, m⟩)
  intro P hP0
  have HP : Hid (∀ w', More w w' → P (.returned (.bool true)) w') := hP0
  have C1 : Hid (∀ w1 : World, More w w1 → Calls Try.prog 6 #[.agg #[.slice l.ra p.rl l.rc, .slice l.ca p.cl l.cc]] w1 (MadeF p w1)) := fun w1 m1 => fmake_calls p l w1 (hp.more m1) hf
  have C2 : Hid (∀ w1 : World, More w w1 → Calls Try.prog 7 #[.agg #[.slice l.ra p.rl l.rc, .slice l.ca p.cl l.cc]] w1 fun e w' => ∃ f : Int × Int, Told p f ∧ e = .returned (.agg #[.int .i64 f.1, .int .i64 f.2]) ∧ More w1 w') := fun w1 m1 => check6_told p l w1 (hp.more m1) hf
  have CH : Hid (∀ f : Int × Int, Told p f → f.1 = 0 → ∀ (lh : Loc) (w1 : World), More w w1 → PIn w1 (fencP p) lh →
      (Calls Try.prog 9 #[.agg #[.slice lh.ra p.rl lh.rc, .slice lh.ca (startC p p.cl) lh.cc]] w1 fun e w' => e = .returned (.bool true) ∧ More w1 w') ∧
      (Calls Try.prog 10 #[.agg #[.slice l.ra p.rl l.rc, .slice l.ca p.cl l.cc], .agg #[.slice lh.ra p.rl lh.rc, .slice lh.ca (startC p p.cl) lh.cc]] w1 fun e w' => e = .returned (.bool true) ∧ More w1 w')) := fun f hT h0 lh w1 m1 hin => by
    obtain ⟨ok, lk, hk, hc⟩ := hT.ok h0
    have k := (fencOf_does hf (h := fencP p) ⟨ok, ⟨lk, hk, hc⟩, rfl⟩).1
    exact ⟨hard_true (fencP p) lh w1 hin k.ok, regions_true p (fencP p) l lh w1 (hp.more m1) hin k.rl k.reg (by have := ok.1.1; omega)⟩
  have C0 : Hid (∀ w1 : World, Calls Try.prog 8 #[.agg #[.slice none 0 0, .slice none 0 0], .agg #[.slice none 0 0, .slice none 0 0]] w1 fun e w' => e = .returned (.bool true) ∧ More w1 w') := fun w1 =>
    same8_true ⟨0, fun _ => 0, fun _ => false, 0, p.ins⟩ ⟨0, fun _ => 0, fun _ => false, 0, p.ins⟩ ⟨none, 0, 0, 0, none, 0, 0, 0⟩ ⟨none, 0, 0, 0, none, 0, 0, 0⟩ w1
      ⟨fun h => absurd h (Nat.lt_irrefl _), fun h => absurd h (Nat.lt_irrefl _), fun i hi => absurd hi (Nat.not_lt_zero _), fun i hi => absurd hi (Nat.not_lt_zero _)⟩
      ⟨fun h => absurd h (Nat.lt_irrefl _), fun h => absurd h (Nat.lt_irrefl _), fun i hi => absurd hi (Nat.not_lt_zero _), fun i hi => absurd hi (Nat.not_lt_zero _)⟩
      ⟨rfl, fun i hi => absurd hi (Nat.not_lt_zero _), rfl, fun i hi => absurd hi (Nat.not_lt_zero _)⟩ (by show 0 < 4611686018427387904; decide) (by show 0 < 4611686018427387904; decide)
  have CM : Hid (∀ f : Int × Int, Told p f → f.1 = 0 → ∀ (lh : Loc) (w1 : World), More w w1 → PIn w1 (fencP p) lh →
      (Calls Try.prog 11 #[.agg #[.slice lh.ra p.rl lh.rc, .slice lh.ca (startC p p.cl) lh.cc]] w1 fun e w' => e = .returned (.int .i64 (maskN p.ins p.cl : Nat)) ∧ More w1 w') ∧
      (Calls Try.prog 11 #[.agg #[.slice l.ra p.rl l.rc, .slice l.ca p.cl l.cc]] w1 fun e w' => e = .returned (.int .i64 (maskN p.ins p.cl : Nat)) ∧ More w1 w')) := fun f hT h0 lh w1 m1 hin => by
    obtain ⟨ok, lk, hk, hc⟩ := hT.ok h0
    have k := (fencOf_does hf (h := fencP p) ⟨ok, ⟨lk, hk, hc⟩, rfl⟩).1
    have := masks_calls (fencP p) lh w1 hin k.ok.2.1 k.ok.2.2.1
    rw [fencP_mask] at this
    exact ⟨this, masks_calls p l w1 (hp.more m1) ok.2.1 (by have := ok.2.2.1; omega)⟩
  have HL : Hid (∀ f : Int × Int, Told p f → f.1 = 0 → p.cl ≤ 200 ∧ startC p p.cl ≤ 4 * p.cl) := fun f hT h0 => ⟨(hT.ok h0).1.2.2.1, by have := startC_le p p.cl; omega⟩
  clear hP0 hp hf
  obtain ⟨ra, Hra⟩ : ∃ x, Hid (l.ra = x) := ⟨_, rfl⟩
  obtain ⟨rl, Hrl⟩ : ∃ x, Hid (p.rl = x) := ⟨_, rfl⟩
  obtain ⟨rc, Hrc⟩ : ∃ x, Hid (l.rc = x) := ⟨_, rfl⟩
  obtain ⟨ca, Hca⟩ : ∃ x, Hid (l.ca = x) := ⟨_, rfl⟩
  obtain ⟨cc, Hcc⟩ : ∃ x, Hid (l.cc = x) := ⟨_, rfl⟩
  obtain ⟨sn, Hsn⟩ : ∃ x, Hid (startC p p.cl = x) := ⟨_, rfl⟩
  rw [Hsn.out] at CH HL CM
  obtain ⟨mk, Hmk⟩ : ∃ x, Hid (maskN p.ins p.cl = x) := ⟨_, rfl⟩
  rw [Hmk.out] at CM
  obtain ⟨cl, Hcl⟩ : ∃ x, Hid (p.cl = x) := ⟨_, rfl⟩
  rw [Hra.out, Hrl.out, Hrc.out, Hca.out, Hcl.out, Hcc.out] at C1 C2 CH CM ⊢
  rw [Hcl.out] at HL
  go_enter Try.func3, Try.ntmps3
  go_wp2_with (fail)
  refine (C1.out _ ((More.refl _).alloc _ _)).mono ?_
  rintro e w1 ⟨f, hT, m1, hA | hB⟩
  · obtain ⟨h0, lh, hin, rfl⟩ := hA
    unfold prgV fencP fenP
    dsimp only
    have CH1 : Hid (∀ w1 : World, More w w1 → PIn w1 (fencP p) lh → _) := CH.out f hT h0 lh
    have CM1 : Hid (∀ w1 : World, More w w1 → PIn w1 (fencP p) lh → _) := CM.out f hT h0 lh
    have hl := HL.out f hT h0
    have HT : Hid (∀ g, Told p g → g = (0, 0)) := fun g hg => by
      have h1 : g = f := hg.one hT
      have h2 := told_zero hT h0
      rw [h1]
      exact Prod.ext h0 h2
    have Hm1 : Hid (More w w1) := ((More.refl _).alloc _ _).trans m1
    have Hp1 : Hid (Blk w1 w.heap.size #[.slice ra rl rc, .slice ca cl cc] 25) := (Blk.last _ _ _).more m1
    have Hin1 : Hid (PIn w1 (fencP p) lh) := hin
    clear m1 hin CH HL C1 hT h0 C0 CM
    rw [Hrl.out, show startG (fenK p (preF p) noF) p.cl = sn from Hsn.out]
    obtain ⟨ra', Hra'⟩ : ∃ x, Hid (lh.ra = x) := ⟨_, rfl⟩
    obtain ⟨rc', Hrc'⟩ : ∃ x, Hid (lh.rc = x) := ⟨_, rfl⟩
    obtain ⟨ca', Hca'⟩ : ∃ x, Hid (lh.ca = x) := ⟨_, rfl⟩
    obtain ⟨cc', Hcc'⟩ : ∃ x, Hid (lh.cc = x) := ⟨_, rfl⟩
    rw [Hra'.out, Hrc'.out, Hca'.out, Hcc'.out] at CH1 CM1 ⊢
    obtain ⟨w2, Hw2⟩ : ∃ w_ : World, Hid (w_ = (w1.alloc (.cells #[.slice ra' rl rc', .slice ca' sn cc'] 25)).alloc (.cells #[.int .i64 0, .int .i64 0] 28)) := ⟨_, rfl⟩
    have Hm2 : Hid (More w1 w2) := by rw [Hw2.out]; exact ((More.refl _).alloc _ _).alloc _ _
    have Hb2 : Hid (Blk w2 w1.heap.size #[.slice ra' rl rc', .slice ca' sn cc'] 25) := by rw [Hw2.out]; exact (Blk.last _ _ _).alloc _ _
    have Hf2 : Hid (Blk w2 (w1.heap.size + 1) #[.int .i64 0, .int .i64 0] 28) := by rw [Hw2.out]; show Blk _ _ _ _; simpa using Blk.last (w1.alloc (.cells #[.slice ra' rl rc', .slice ca' sn cc'] 25)) #[.int .i64 0, .int .i64 0] 28
    have c0 : w1.cell? ⟨w.heap.size, 0, none⟩ = some (.slice ra rl rc) := Hp1.out.cell rfl
    have c1 : w1.cell? ⟨w.heap.size, 1, none⟩ = some (.slice ca cl cc) := Hp1.out.cell rfl
    have z1 := Hp1.out.lt
    go_wp2_with (fail)
    rw [← Hw2.out]
    refine (C2.out w2 (Hm1.out.trans Hm2.out)).mono ?_
    rintro e w3 ⟨g, hg, rfl, m3⟩
    obtain rfl := HT.out g hg
    dsimp only
    have Hm3 : Hid (More w1 w3) := Hm2.out.trans m3
    have Hb3 : Hid (Blk w3 w1.heap.size #[.slice ra' rl rc', .slice ca' sn cc'] 25) := Hb2.out.more m3
    have Hf3 : Hid (Blk w3 (w1.heap.size + 1) #[.int .i64 0, .int .i64 0] 28) := Hf2.out.more m3
    have Hp3 : Hid (Blk w3 w.heap.size #[.slice ra rl rc, .slice ca cl cc] 25) := Hp1.out.more Hm3.out
    clear m3 hg c0 c1 z1 C2
    obtain ⟨w4, Hw4⟩ : ∃ w_ : World, Hid (w_ = w3.alloc (.cells #[.int .i64 0, .int .i64 0] 28)) := ⟨_, rfl⟩
    have Hm4 : Hid (More w3 w4) := by rw [Hw4.out]; exact (More.refl _).alloc _ _
    have Hg4 : Hid (Blk w4 w3.heap.size #[.int .i64 0, .int .i64 0] 28) := by rw [Hw4.out]; exact Blk.last _ _ _
    have Hb4 : Hid (Blk w4 w1.heap.size #[.slice ra' rl rc', .slice ca' sn cc'] 25) := Hb3.out.more Hm4.out
    have Hf4 : Hid (Blk w4 (w1.heap.size + 1) #[.int .i64 0, .int .i64 0] 28) := Hf3.out.more Hm4.out
    have Hp4 : Hid (Blk w4 w.heap.size #[.slice ra rl rc, .slice ca cl cc] 25) := Hp3.out.more Hm4.out
    obtain ⟨S, HS⟩ : ∃ S : World → Prop, Hid (∀ w', S w' ↔ More w4 w') := ⟨fun w' => More w4 w', fun _ => Iff.rfl⟩
    have HS0 : S w4.drew := (HS.out _).2 (More.refl _).drew
    have k0 : ∀ i : { w' // S w' }, i.val.cell? ⟨w.heap.size, 0, none⟩ = some (.slice ra rl rc) := fun i => (Hp4.out.more ((HS.out _).1 i.property)).cell rfl
    have k1 : ∀ i : { w' // S w' }, i.val.cell? ⟨w.heap.size, 1, none⟩ = some (.slice ca cl cc) := fun i => (Hp4.out.more ((HS.out _).1 i.property)).cell rfl
    have k2 : ∀ i : { w' // S w' }, i.val.cell? ⟨w1.heap.size, 0, none⟩ = some (.slice ra' rl rc') := fun i => (Hb4.out.more ((HS.out _).1 i.property)).cell rfl
    have k3 : ∀ i : { w' // S w' }, i.val.cell? ⟨w1.heap.size, 1, none⟩ = some (.slice ca' sn cc') := fun i => (Hb4.out.more ((HS.out _).1 i.property)).cell rfl
    have k4 : ∀ i : { w' // S w' }, i.val.cell? ⟨w1.heap.size + 1, 0, none⟩ = some (.int .i64 0) := fun i => (Hf4.out.more ((HS.out _).1 i.property)).cell rfl
    have k5 : ∀ i : { w' // S w' }, i.val.cell? ⟨w1.heap.size + 1, 1, none⟩ = some (.int .i64 0) := fun i => (Hf4.out.more ((HS.out _).1 i.property)).cell rfl
    have k6 : ∀ i : { w' // S w' }, i.val.cell? ⟨w3.heap.size, 0, none⟩ = some (.int .i64 0) := fun i => (Hg4.out.more ((HS.out _).1 i.property)).cell rfl
    have k7 : ∀ i : { w' // S w' }, i.val.cell? ⟨w3.heap.size, 1, none⟩ = some (.int .i64 0) := fun i => (Hg4.out.more ((HS.out _).1 i.property)).cell rfl
    have hne : Nonempty { w' // S w' } := ⟨⟨_, HS0⟩⟩
    have hw : wrap64 (4 * (cl : Int)) = 4 * (cl : Int) := by have := hl.1; unfold wrap64; omega
    have hv : IntKind.i64.wrap (4 * (cl : Int)) = 4 * (cl : Int) := by have := hl.1; rw [IntKind.wrap_i64]; omega
    have hd : decide ((sn : Int) ≤ 4 * (cl : Int)) = true := by have := hl.2; simp; omega
    have HH : Hid (∀ w5, S w5 → More w w5 ∧ PIn w5 (fencP p) lh) := fun w5 h5 => ⟨Hm1.out.trans (Hm3.out.trans (Hm4.out.trans ((HS.out _).1 h5))), Hin1.out.more (Hm3.out.trans (Hm4.out.trans ((HS.out _).1 h5)))⟩
    have HN : Hid (∀ w5 w6, S w5 → More w5 w6 → S w6) := fun w5 w6 h5 m6 => (HS.out _).2 (((HS.out _).1 h5).trans m6)
    have Hend : Hid (∀ w5, S w5 → P (.returned (.bool true)) w5) := fun w5 h5 => HP.out _ (HH.out w5 h5).1
    clear HP HS
    go_wp2_with (fail)
    rw [← Hw4.out]
    refine wp_region_ord (S := S) [(0, true), (1, true), (2, true), (3, true), (4, true), (5, false), (6, true), (7, true), (8, true), (9, true), (10, false), (11, true), (12, true), (13, true), (14, true), (15, true), (16, true), (17, true), (18, true), (19, true), (20, true), (21, true), (22, true), (23, true), (25, true), (24, false), (26, false), (27, true), (28, true), (29, true)] (by kernel_rfl) (by kernel_rfl) (by kernel_rfl) HS0 ?_
    obtain ⟨wd, Hwd⟩ : ∃ w_ : World, Hid (w_ = w4.drew) := ⟨_, rfl⟩
    have HSd : Hid (S wd) := Hwd.out ▸ HS0
    rw [← Hwd.out]
    iterate 5 (refine wpOrd_take rfl (by kernel_rfl) (fun K hK => ?_); go_simp; refine hK _ _ ?_; clear hK K)
    refine wpOrd_busy rfl (by kernel_rfl) (fun K hK => ?_); go_simp
    refine (CH1.out wd (HH.out wd HSd.out).1 (HH.out wd HSd.out).2).1.mono ?_
    rintro e w5 ⟨rfl, m5⟩
    have HS5 : Hid (S w5) := HN.out _ _ HSd.out m5
    clear m5
    go_simp
    refine hK _ _ HS5.out ?_; clear hK K
    refine wpOrd_pickT rfl rfl (by kernel_rfl) rfl (fun K hK => ?_); go_simp; refine hK _ _ ?_; clear hK K
    iterate 3 (refine wpOrd_take rfl (by kernel_rfl) (fun K hK => ?_); go_simp; refine hK _ _ ?_; clear hK K)
    refine wpOrd_busy rfl (by kernel_rfl) (fun K hK => ?_); go_simp
    refine (CH1.out w5 (HH.out w5 HS5.out).1 (HH.out w5 HS5.out).2).2.mono ?_
    rintro e w6 ⟨rfl, m6⟩
    have HS6 : Hid (S w6) := HN.out _ _ HS5.out m6
    clear m6
    go_simp
    refine hK _ _ HS6.out ?_; clear hK K
    refine wpOrd_pickT rfl rfl (by kernel_rfl) rfl (fun K hK => ?_); go_simp; refine hK _ _ ?_; clear hK K
    iterate 9 (refine wpOrd_take rfl (by kernel_rfl) (fun K hK => ?_); go_simp; refine hK _ _ ?_; clear hK K)
    refine wpOrd_pickT rfl rfl (by kernel_rfl) rfl (fun K hK => ?_); go_simp; refine hK _ _ ?_; clear hK K
    iterate 3 (refine wpOrd_take rfl (by kernel_rfl) (fun K hK => ?_); go_simp; refine hK _ _ ?_; clear hK K)
    refine wpOrd_busy rfl (by kernel_rfl) (fun K hK => ?_); go_simp
    refine (CM1.out w6 (HH.out w6 HS6.out).1 (HH.out w6 HS6.out).2).1.mono ?_
    rintro e w7 ⟨rfl, m7⟩
    have HS7 : Hid (S w7) := HN.out _ _ HS6.out m7
    clear m7
    go_simp
    refine hK _ _ HS7.out ?_; clear hK K
    refine wpOrd_busy rfl (by kernel_rfl) (fun K hK => ?_); go_simp
    refine (CM1.out w7 (HH.out w7 HS7.out).1 (HH.out w7 HS7.out).2).2.mono ?_
    rintro e w8 ⟨rfl, m8⟩
    have HS8 : Hid (S w8) := HN.out _ _ HS7.out m8
    clear m8
    go_simp
    refine hK _ _ HS8.out ?_; clear hK K
    refine wpOrd_take rfl (by kernel_rfl) (fun K hK => ?_); go_simp; refine hK _ _ ?_; clear hK K
    refine wpOrd_pickT rfl rfl (by kernel_rfl) rfl (fun K hK => ?_); go_simp; refine hK _ _ ?_; clear hK K
    refine wpOrd_take rfl (by kernel_rfl) (fun K hK => ?_); go_simp; refine hK _ _ ?_; clear hK K
    refine wpOrd_done ?_
    have He : Hid (P (.returned (.bool true)) w8) := Hend.out _ HS8.out
    clear k0 k1 k2 k3 k4 k5 k6 k7 hne HS0 Hend
    go_wp2
    exact He.out
  · obtain ⟨h0, rfl⟩ := hB
    obtain ⟨f1, f2⟩ := f
    dsimp only at h0 ⊢
    have e0 : (f1 == 0) = false := by simp [h0]
    have e1 : (f1 != 0) = true := by simp [h0]
    have HT : Hid (∀ g, Told p g → g = (f1, f2)) := fun g hg => hg.one hT
    have Hm1 : Hid (More w w1) := ((More.refl _).alloc _ _).trans m1
    have Hp1 : Hid (Blk w1 w.heap.size #[.slice ra rl rc, .slice ca cl cc] 25) := (Blk.last _ _ _).more m1
    clear m1 CH CM HL C1 hT h0
    obtain ⟨w2, Hw2⟩ : ∃ w_ : World, Hid (w_ = (w1.alloc (.cells #[.slice none 0 0, .slice none 0 0] 25)).alloc (.cells #[.int .i64 f1, .int .i64 f2] 28)) := ⟨_, rfl⟩
    have Hm2 : Hid (More w1 w2) := by rw [Hw2.out]; exact ((More.refl _).alloc _ _).alloc _ _
    have Hb2 : Hid (Blk w2 w1.heap.size #[.slice none 0 0, .slice none 0 0] 25) := by rw [Hw2.out]; exact (Blk.last _ _ _).alloc _ _
    have Hf2 : Hid (Blk w2 (w1.heap.size + 1) #[.int .i64 f1, .int .i64 f2] 28) := by rw [Hw2.out]; show Blk _ _ _ _; simpa using Blk.last (w1.alloc (.cells #[.slice none 0 0, .slice none 0 0] 25)) #[.int .i64 f1, .int .i64 f2] 28
    have c0 : w1.cell? ⟨w.heap.size, 0, none⟩ = some (.slice ra rl rc) := Hp1.out.cell rfl
    have c1 : w1.cell? ⟨w.heap.size, 1, none⟩ = some (.slice ca cl cc) := Hp1.out.cell rfl
    have z1 := Hp1.out.lt
    go_wp2_with (fail)
    rw [← Hw2.out]
    refine (C2.out w2 (Hm1.out.trans Hm2.out)).mono ?_
    rintro e w3 ⟨g, hg, rfl, m3⟩
    obtain rfl := HT.out g hg
    dsimp only
    have Hm3 : Hid (More w1 w3) := Hm2.out.trans m3
    have Hb3 : Hid (Blk w3 w1.heap.size #[.slice none 0 0, .slice none 0 0] 25) := Hb2.out.more m3
    have Hf3 : Hid (Blk w3 (w1.heap.size + 1) #[.int .i64 f1, .int .i64 f2] 28) := Hf2.out.more m3
    clear m3 hg c0 c1 z1 C2
    obtain ⟨w4, Hw4⟩ : ∃ w_ : World, Hid (w_ = w3.alloc (.cells #[.int .i64 f1, .int .i64 f2] 28)) := ⟨_, rfl⟩
    have Hm4 : Hid (More w3 w4) := by rw [Hw4.out]; exact (More.refl _).alloc _ _
    have u0 : w3.cell? ⟨w1.heap.size + 1, 0, none⟩ = some (.int .i64 f1) := Hf3.out.cell rfl
    have u1 : w3.cell? ⟨w1.heap.size + 1, 1, none⟩ = some (.int .i64 f2) := Hf3.out.cell rfl
    have b0 : w3.cell? ⟨w1.heap.size, 0, none⟩ = some (.slice none 0 0) := Hb3.out.cell rfl
    have b1 : w3.cell? ⟨w1.heap.size, 1, none⟩ = some (.slice none 0 0) := Hb3.out.cell rfl
    have z2 := Hb3.out.lt
    have z3 := Hf3.out.lt
    go_wp2_with (fail)
    rw [← Hw4.out]
    refine (C0.out w4).mono ?_
    rintro e w5 ⟨rfl, m5⟩
    have Hend : Hid (P (.returned (.bool true)) w5) := HP.out _ (Hm1.out.trans (Hm3.out.trans (Hm4.out.trans m5)))
    clear m5 u0 u1 b0 b1 z2 z3
    go_wp2
    exact Hend.out

/-! ### THE ROW's STEP -/
set_option maxRecDepth 100000 in
theorem lifted (os : Os) (started : os.Started) (H : Type) (enc : TypeId × Value → H) :
    ReturnsInHanded {} Try.checked os 3 .any (Rows.fenceMakesSpec.pre6 enc Try.prog Try.f3 Rows.fenceMakesRow.domain false) (Rows.fenceMakesSpec.post enc Try.prog Try.f3 false true false false) := by
  refine returnsInHanded_of_change (C := Try.checked) own started (by kernel_rfl) Try.func3
    (ChangeSpec.witness6 (enc := enc) (C := Try.checked) false ⟨#[], #[.agg #[.slice none 0 0, .slice none 0 0]], []⟩ 8 (by kernel_rfl) (by kernel_rfl) (by kernel_rfl) (by kernel_rfl)) ?_
  intro W base args ds gs before hval0 hW hcnd _
  have hval : ∀ (j : Nat) t v, Try.f3.params[j]? = some t → args[j]? = some v → Value.okWide Try.prog W .any base t v := hval0
  have hW' := hW
  obtain ⟨p, q, hA0, hV, rfl, hfz, hnd⟩ := hW
  have hA : DataW.TrodAll enc Try.prog W 0 (fun _ => true) true Try.f3.params.toList args.toList ds p := hA0
  rw [Try.params3] at hA hval
  obtain ⟨v0, vs0, d0, ds0, p0, q0, hargs, rfl, rfl, h0, r0⟩ := trodAll_cons hA
  obtain ⟨rfl, rfl, rfl⟩ := trodAll_nil r0
  obtain rfl : args = #[v0] := by cases args; simp_all
  obtain ⟨rfl, rfl⟩ := trodVars_none hV
  have lt0 : ∀ x ∈ p0, x.block < W.heap.size := by obtain ⟨m, hm⟩ := h0; exact DataW.trod_lt m _ _ _ hm
  obtain ⟨P0, l0, rfl, hin0, hfit0⟩ := open_prog (hval 0 25 v0 rfl rfl) h0
  clear hA0 hval0
  refine (walk P0 l0 W hin0 hfit0).mono fun e W' ⟨he, bel⟩ => ?_
  subst he
  exact ⟨_, rfl, _, _, _, [], _, [], hW', trodAll_mk1 (shut_bool Try.underlying4 _), (trodAll_cons_mk (Below.trod laidOut (by kernel_rfl) (of_decide_eq_true (by kernel_rfl)) h0 bel lt0) trodAll_mk0), rfl, Below.frame bel _, fun h => by cases h⟩

theorem over : Rows.fenceMakesRow.holds Try.pinned (OpenSpec.ofChange Rows.fenceMakesSpec) :=
  OpenClaim.holds_of_wide 3 Try.f3 rfl rfl rfl rfl rfl rfl rfl ⟨rfl, rfl, rfl, rfl, rfl⟩ rfl rfl rfl rfl rfl (by kernel_rfl) Try.func3 (by kernel_rfl)
    (of_decide_eq_true (by kernel_rfl)) (by unfold Func.isWrapper; first | (rw [if_pos (by decide +kernel)]; kernel_rfl) | (rw [if_neg (by decide +kernel)]; exact ⟨rfl, rfl⟩))
    (fun os started H enc _ => lifted os started H enc)

end fenceMakes

/-- The given statement. -/
theorem fenceMakes_holds : Rows.FenceMakesSaid :=
  fenceMakes.over
#print axioms fenceMakes_holds
end Go.Proofs.Ytmpafeoileonjaa
