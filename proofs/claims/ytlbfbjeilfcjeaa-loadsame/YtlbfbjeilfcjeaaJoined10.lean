/-
  The texts LdMake, LdSame, one behind the other, with what is used of them.
-/
import Derived.Test.YtlbfbjeilfcjeaaJoined9
import Derived.Test.YtlbfbjeilfcjeaaJoined6
namespace Go.Proofs.Ytlbfbjeilfcjeaa
section
open Go.RowKit
set_option linter.unusedSimpArgs false
set_option linter.unusedVariables false
set_option maxRecDepth 8000
/-- What Load tells. -/
def LoadAns (p : Prg) (w : World) (e : Ending) (w' : World) : Prop :=
  ∃ f : Int × Int, Told p f ∧ More w w' ∧
    ((f.1 = 0 ∧ ∃ g c, e = .returned (.tuple #[.slice (some ⟨g, 0, none⟩) (fitP (hardP p)).cl c, .agg #[.int .i64 0, .int .i64 0]]) ∧ WordsAt w' g 0 (fitP (hardP p)).cl (fun j => encW ((fitP (hardP p)).ins j))) ∨
     (¬ f.1 = 0 ∧ e = .returned (.tuple #[.slice none 0 0, .agg #[.int .i64 f.1, .int .i64 f.2]])))

theorem put_made {q : Prg} {f : Int × Int} (ok : q.Ok 8000 10) (hn : ∀ j, j < q.cl → N14 (q.ins j).n) (h : PutR q f) : f = (0, 0) := h.one (.inr (.inr ⟨ok, hn, rfl⟩))

set_option maxHeartbeats 2000000 in
theorem load_calls (p : Prg) (l : Loc) (w : World) (hp : PIn w p l) (hf : p.Fit) : Calls Try.prog 5 #[prgV p l] w (LoadAns p w) := by
  unfold prgV
  have C1 : Hid (∀ w1 : World, More w w1 → Calls Try.prog 11 #[.agg #[.slice l.ra p.rl l.rc, .slice l.ca p.cl l.cc]] w1 (Made p w1)) := fun w1 m1 => make_calls p l w1 (hp.more m1) hf
  have C2 : Hid (p.Ok 200 8 → ∀ (lh : Loc) (w1 w2 : World) (Lb : Nat), More w1 w2 → w1.heap.size ≤ Lb → PIn w1 (hardP p) lh → Blk w2 Lb #[.slice lh.ra (hardP p).rl lh.rc, .slice lh.ca (hardP p).cl lh.cc, .slice none 0 0] 47 → Calls Try.prog 13 #[.pointer (some ⟨Lb, 0, none⟩)] w2 fun e w' => ∃ lf : Loc, e = .returned (prgV (fitP (hardP p)) lf) ∧ PIn w' (fitP (hardP p)) lf ∧ More w1 w') := fun ok lh w1 w2 Lb m h1 h2 h3 => by
    have hl := hd_like (hardP_hdn p) ok hf
    exact lfit_calls (hardP p) lh w1 w2 Lb m h1 h2 hl.ok (by have := startL_most p p.cl; have := ok.2.2.1; show startL p p.cl ≤ 600; omega) h3 (fun k hk => (hl.fit.ins k hk).2.2.2.2)
  have C3 : Hid (p.Ok 200 8 → ∀ (lf : Loc) (w1 : World), PIn w1 (fitP (hardP p)) lf → Calls Try.prog 12 #[prgV (fitP (hardP p)) lf] w1 fun e w' => More w1 w' ∧ ∃ g c, e = .returned (.tuple #[.slice (some ⟨g, 0, none⟩) (fitP (hardP p)).cl c, .agg #[.int .i64 0, .int .i64 0]]) ∧ w1.heap.size ≤ g ∧ WordsAt w' g 0 (fitP (hardP p)).cl (fun j => encW ((fitP (hardP p)).ins j))) := fun ok lf w1 h1 => by
    refine (put_calls _ lf w1 h1).mono ?_
    rintro e w' ⟨f, hR, m, h⟩
    obtain rfl := put_made (fit_ok ok hf) (fit_room ok hf) hR
    rcases h with ⟨_, g, c, he, hg, hw⟩ | ⟨h, _⟩
    · exact ⟨m, g, c, he, hg, hw⟩
    · exact absurd rfl h
  clear hp hf
  obtain ⟨ra, Hra⟩ : ∃ x, Hid (l.ra = x) := ⟨_, rfl⟩
  obtain ⟨rl, Hrl⟩ : ∃ x, Hid (p.rl = x) := ⟨_, rfl⟩
  obtain ⟨rc, Hrc⟩ : ∃ x, Hid (l.rc = x) := ⟨_, rfl⟩
  obtain ⟨ca, Hca⟩ : ∃ x, Hid (l.ca = x) := ⟨_, rfl⟩
  obtain ⟨cl, Hcl⟩ : ∃ x, Hid (p.cl = x) := ⟨_, rfl⟩
  obtain ⟨cc, Hcc⟩ : ∃ x, Hid (l.cc = x) := ⟨_, rfl⟩
  rw [Hra.out, Hrl.out, Hrc.out, Hca.out, Hcl.out, Hcc.out] at C1 ⊢
  obtain ⟨W0, HW0⟩ : ∃ W : World, Hid (W = (w.alloc (.cells #[.slice ra rl rc, .slice ca cl cc] 25)).alloc (.cells #[.int .i64 0, .int .i64 0] 29)) := ⟨_, rfl⟩
  have Hm0 : Hid (More w W0) := HW0.out ▸ ((More.refl _).alloc _ _).alloc _ _
  have B1 : Hid (Blk W0 (w.heap.size + 1) #[.int .i64 0, .int .i64 0] 29) := HW0.out ▸ (by simpa using Blk.last (w.alloc (.cells #[.slice ra rl rc, .slice ca cl cc] 25)) #[.int .i64 0, .int .i64 0] 29 : Blk _ (w.heap.size + 1) _ _)
  go_enter Try.func5, Try.ntmps5
  go_wp2_with (fail)
  rw [← HW0.out]
  refine (C1.out W0 Hm0.out).mono ?_
  rintro e w1 ⟨⟨f1, f2⟩, hT, m1, h⟩
  have HT : Hid (Told p (f1, f2)) := hT
  have Hm1 : Hid (More W0 w1) := m1
  clear hT m1 C1
  rcases h with ⟨h0, lh, hin, rfl⟩ | ⟨h0, rfl⟩
  · dsimp only at h0
    subst h0
    obtain ⟨hok, lk, hk, hk0⟩ := HT.out.ok rfl
    have HO : Hid (p.Ok 200 8) := hok
    clear hok hk hk0
    have C2' := C2.out HO.out lh
    have C3' : Hid (∀ (lf : Loc) (w1 : World), PIn w1 (fitP (hardP p)) lf → Calls Try.prog 12 #[prgV (fitP (hardP p)) lf] w1 fun e w' => More w1 w' ∧ ∃ g c, e = .returned (.tuple #[.slice (some ⟨g, 0, none⟩) (fitP (hardP p)).cl c, .agg #[.int .i64 0, .int .i64 0]]) ∧ w1.heap.size ≤ g ∧ WordsAt w' g 0 (fitP (hardP p)).cl (fun j => encW ((fitP (hardP p)).ins j))) := C3.out HO.out
    have Hin : Hid (PIn w1 (hardP p) lh) := hin
    unfold prgV
    obtain ⟨ra', Hra'⟩ : ∃ x, Hid (lh.ra = x) := ⟨_, rfl⟩
    obtain ⟨rl', Hrl'⟩ : ∃ x, Hid ((hardP p).rl = x) := ⟨_, rfl⟩
    obtain ⟨rc', Hrc'⟩ : ∃ x, Hid (lh.rc = x) := ⟨_, rfl⟩
    obtain ⟨ca', Hca'⟩ : ∃ x, Hid (lh.ca = x) := ⟨_, rfl⟩
    obtain ⟨cl', Hcl'⟩ : ∃ x, Hid ((hardP p).cl = x) := ⟨_, rfl⟩
    obtain ⟨cc', Hcc'⟩ : ∃ x, Hid (lh.cc = x) := ⟨_, rfl⟩
    rw [Hra'.out, Hrl'.out, Hrc'.out, Hca'.out, Hcl'.out, Hcc'.out] at C2' ⊢
    have C2'' : Hid (∀ (w1 w2 : World) (Lb : Nat), More w1 w2 → w1.heap.size ≤ Lb → PIn w1 (hardP p) lh → Blk w2 Lb #[.slice ra' rl' rc', .slice ca' cl' cc', .slice none 0 0] 47 → Calls Try.prog 13 #[.pointer (some ⟨Lb, 0, none⟩)] w2 fun e w' => ∃ lf : Loc, e = .returned (prgV (fitP (hardP p)) lf) ∧ PIn w' (fitP (hardP p)) lf ∧ More w1 w') := C2'
    clear C2 C3 C2' hin
    obtain ⟨W2, HW2⟩ : ∃ W : World, Hid (W = ((w1.alloc (.cells #[.slice ra' rl' rc', .slice ca' cl' cc'] 25)).alloc (.cells #[.int .i64 0, .int .i64 0] 29)).alloc (.cells #[.slice ra' rl' rc', .slice ca' cl' cc', .slice none 0 0] 47)) := ⟨_, rfl⟩
    have Hm2 : Hid (More w1 W2) := HW2.out ▸ (((More.refl _).alloc _ _).alloc _ _).alloc _ _
    have HB2 : Hid (Blk W2 (w1.heap.size + 1 + 1) #[.slice ra' rl' rc', .slice ca' cl' cc', .slice none 0 0] 47) := HW2.out ▸ (by simpa using Blk.last ((w1.alloc (.cells #[.slice ra' rl' rc', .slice ca' cl' cc'] 25)).alloc (.cells #[.int .i64 0, .int .i64 0] 29)) #[.slice ra' rl' rc', .slice ca' cl' cc', .slice none 0 0] 47 : Blk _ (w1.heap.size + 1 + 1) _ _)
    have C21 := C2''.out w1 W2 (w1.heap.size + 1 + 1) Hm2.out (by omega) Hin.out HB2.out
    go_wp2_with (fail)
    rw [← HW2.out]
    refine C21.mono ?_
    rintro e w3 ⟨lf, rfl, hin3, m3⟩
    have C31 := C3'.out lf w3 hin3
    have Hm3 : Hid (More w1 w3) := m3
    unfold prgV at C31 ⊢
    obtain ⟨ra2, Hra2⟩ : ∃ x, Hid (lf.ra = x) := ⟨_, rfl⟩
    obtain ⟨rl2, Hrl2⟩ : ∃ x, Hid ((fitP (hardP p)).rl = x) := ⟨_, rfl⟩
    obtain ⟨rc2, Hrc2⟩ : ∃ x, Hid (lf.rc = x) := ⟨_, rfl⟩
    obtain ⟨ca2, Hca2⟩ : ∃ x, Hid (lf.ca = x) := ⟨_, rfl⟩
    obtain ⟨cl2, Hcl2⟩ : ∃ x, Hid ((fitP (hardP p)).cl = x) := ⟨_, rfl⟩
    obtain ⟨cc2, Hcc2⟩ : ∃ x, Hid (lf.cc = x) := ⟨_, rfl⟩
    rw [Hra2.out, Hrl2.out, Hrc2.out, Hca2.out, Hcl2.out, Hcc2.out] at C31
    rw [Hra2.out, Hrl2.out, Hrc2.out, Hca2.out, Hcl2.out, Hcc2.out]
    clear C2'' C3' C21 hin3 m3
    go_wp2_with (fail)
    refine C31.mono ?_
    rintro e w4 ⟨m4, g, c, rfl, hg, hw⟩
    have HW4 : Hid (WordsAt w4 g 0 cl2 (fun j => encW ((fitP (hardP p)).ins j)) ∧ w3.heap.size ≤ g) := ⟨hw, hg⟩
    have Hm4 : Hid (More W0 w4) := (Hm1.out.trans Hm3.out).trans m4
    clear hw hg m4 C31
    have B4 : Hid (Blk w4 (w.heap.size + 1) #[.int .i64 0, .int .i64 0] 29) := B1.out.more Hm4.out
    have a0 : w4.cell? ⟨w.heap.size + 1, 0, none⟩ = some (.int .i64 0) := B4.out.cell rfl
    have a1 : w4.cell? ⟨w.heap.size + 1, 1, none⟩ = some (.int .i64 0) := B4.out.cell rfl
    have z0 := B4.out.frozen 0
    have z1 := B4.out.frozen 1
    go_wp2
    refine bodyPost_ret (v := .tuple #[.slice (some ⟨g, 0, none⟩) cl2 c, .agg #[.int .i64 0, .int .i64 0]]) (by simp [results, Try.results5, go_sem, *]) rfl ?_
    have hsz : w.heap.size + 1 < w3.heap.size := by
      have := (B1.out.more (Hm1.out.trans Hm3.out)).lt
      omega
    refine ⟨(0, f2), HT.out, ?_, .inl ⟨rfl, g, c, ?_, ?_⟩⟩
    · exact ((Hm0.out.trans Hm4.out).setCell (by show w.heap.size ≤ _; simp) _).setCell (by show w.heap.size ≤ _; simp) _
    · rw [Hcl2.out]
    · rw [Hcl2.out]
      have hg := HW4.out.2
      intro j hj
      rw [World.cell?_setCell_other _ _ _ _ (by intro e; simp only [Addr.mk.injEq] at e; omega), World.cell?_setCell_other _ _ _ _ (by intro e; simp only [Addr.mk.injEq] at e; omega)]
      exact HW4.out.1 j hj
  · have H0 : Hid (¬ f1 = 0) := h0
    have e1 : (f1 != 0) = true := by simp; exact h0
    clear h0 C2 C3
    obtain ⟨W, HW⟩ : ∃ W : World, Hid (W = (w1.alloc (.cells #[.slice none 0 0, .slice none 0 0] 25)).alloc (.cells #[.int .i64 f1, .int .i64 f2] 29)) := ⟨_, rfl⟩
    have HmW : Hid (More w1 W) := HW.out ▸ ((More.refl _).alloc _ _).alloc _ _
    have D3 : Hid (Blk W (w1.heap.size + 1) #[.int .i64 f1, .int .i64 f2] 29) := HW.out ▸ (by simpa using Blk.last (w1.alloc (.cells #[.slice none 0 0, .slice none 0 0] 25)) #[.int .i64 f1, .int .i64 f2] 29 : Blk _ (w1.heap.size + 1) _ _)
    have Hm : Hid (More W0 W) := Hm1.out.trans HmW.out
    obtain ⟨S, HS⟩ : ∃ S : World → Prop, Hid (∀ w', S w' ↔ Blk w' (w1.heap.size + 1) #[.int .i64 f1, .int .i64 f2] 29) := ⟨_, fun _ => Iff.rfl⟩
    have HS0 : S W.drew := (HS.out _).2 D3.out
    have k0 : ∀ i : { w' // S w' }, i.val.cell? ⟨w1.heap.size + 1, 0, none⟩ = some (.int .i64 f1) := fun i => ((HS.out _).1 i.property).cell rfl
    have k1 : ∀ i : { w' // S w' }, i.val.cell? ⟨w1.heap.size + 1, 1, none⟩ = some (.int .i64 f2) := fun i => ((HS.out _).1 i.property).cell rfl
    have hne : Nonempty { w' // S w' } := ⟨⟨_, HS0⟩⟩
    have hz1 : w.heap.size + 1 < w1.heap.size := (B1.out.more Hm1.out).lt
    have B4 : Hid (Blk W (w.heap.size + 1) #[.int .i64 0, .int .i64 0] 29) := B1.out.more Hm.out
    have a0 : W.cell? ⟨w.heap.size + 1, 0, none⟩ = some (.int .i64 0) := B4.out.cell rfl
    have a1 : W.cell? ⟨w.heap.size + 1, 1, none⟩ = some (.int .i64 0) := B4.out.cell rfl
    have z0 := B4.out.frozen 0
    have z1 := B4.out.frozen 1
    go_wp2_with (fail)
    rw [← HW.out]
    refine wp_region_ord (S := S) [(0, true), (1, true), (2, false)] (by kernel_rfl) (by kernel_rfl) (by kernel_rfl) HS0 ?_
    iterate 2 (refine wpOrd_take rfl (by kernel_rfl) (fun K hK => ?_); go_simp; refine hK _ _ ?_; clear hK K)
    refine wpOrd_busy rfl (by kernel_rfl) (fun K hK => ?_); go_simp
    refine hK _ _ ((HS.out _).2 ((D3.out.other (by omega) _ _).other (by omega) _ _)) ?_; clear hK K
    refine wpOrd_done ?_
    clear k0 k1 hne HS0
    go_wp2
    refine bodyPost_ret (v := .tuple #[.slice none 0 0, .agg #[.int .i64 f1, .int .i64 f2]]) (by simp [results, Try.results5, go_sem, *]) rfl ?_
    refine ⟨(f1, f2), HT.out, ?_, .inr ⟨H0.out, rfl⟩⟩
    exact (((Hm0.out.trans Hm.out).setCell (by show w.heap.size ≤ _; simp) _).setCell (by show w.heap.size ≤ _; simp) _).drew

theorem Blk.apart {w : World} {X : Nat} {u v : Value} {T : TypeId} (h : Blk w X #[u, v] T) {b o : Nat} {x : Value} (hc : w.cell? ⟨b, o, none⟩ = some x) (h1 : x ≠ u) (h2 : x ≠ v) : X ≠ b := by
  rintro rfl
  unfold Blk at h
  unfold World.cell? at hc
  simp [h] at hc
  match o, hc with
  | 0, hc => exact h1 (by simpa using hc.symm)
  | 1, hc => exact h2 (by simpa using hc.symm)
  | o + 2, hc => simp at hc

set_option maxHeartbeats 2000000 in
/-- What the law's loaded comes to: the program that the words are. -/
theorem lded_calls (p : Prg) (l : Loc) (w : World) (hp : PIn w p l) (g n c : Nat) (f : Nat → Int) (hw : WordsAt w g 0 n f) (hf : ∀ i, i < n → W32 (f i)) (hn : n ≤ 3000000000000) (ok : (getP p.rl p.log p.sec n f).Ok 8000 10) :
    Calls Try.prog 7 #[.agg #[.slice l.ra p.rl l.rc, .slice l.ca p.cl l.cc], .slice (some ⟨g, 0, none⟩) n c] w fun e w' => ∃ lq : Loc, PIn w' (getP p.rl p.log p.sec n f) lq ∧ e = .returned (.tuple #[.agg #[.slice lq.ra p.rl lq.rc, .slice lq.ca n lq.cc], .bool true]) ∧ More w w' := by
  have CG : Hid (∀ w1 : World, More w w1 → Calls Try.prog 19 #[.slice l.ra p.rl l.rc, .slice (some ⟨g, 0, none⟩) n c] w1 fun e w' => More w1 w' ∧ ∃ lq : Loc, PIn w' (getP p.rl p.log p.sec n f) lq ∧ e = .returned (.tuple #[.agg #[.slice lq.ra p.rl lq.rc, .slice lq.ca n lq.cc], .agg #[.int .i64 0, .int .i64 0]])) := fun w1 m1 => by
    refine (ref8_get l.ra p.rl l.rc l.rb l.ro p.log p.sec (some ⟨g, 0, none⟩) n c g 0 f w1 hp.hr (hp.regs.more m1) (fun _ => rfl) (fun i hi => m1.cell (hw i hi)) hf hn).mono ?_
    rintro e w' ⟨m, ⟨_, lq, h1, h2⟩ | ⟨h, _⟩⟩
    · exact ⟨m, lq, h1, h2⟩
    · exact absurd ok h
  clear hp hw hf hn
  obtain ⟨ra, Hra⟩ : ∃ x, Hid (l.ra = x) := ⟨_, rfl⟩
  obtain ⟨rl, Hrl⟩ : ∃ x, Hid (p.rl = x) := ⟨_, rfl⟩
  obtain ⟨rc, Hrc⟩ : ∃ x, Hid (l.rc = x) := ⟨_, rfl⟩
  obtain ⟨ca, Hca⟩ : ∃ x, Hid (l.ca = x) := ⟨_, rfl⟩
  obtain ⟨cl, Hcl⟩ : ∃ x, Hid (p.cl = x) := ⟨_, rfl⟩
  obtain ⟨cc, Hcc⟩ : ∃ x, Hid (l.cc = x) := ⟨_, rfl⟩
  obtain ⟨q, Hq⟩ : ∃ x, Hid (getP p.rl p.log p.sec n f = x) := ⟨_, rfl⟩
  rw [Hq.out] at CG ok ⊢
  rw [Hra.out, Hrl.out, Hrc.out] at CG
  rw [Hra.out, Hrl.out, Hrc.out, Hca.out, Hcl.out, Hcc.out]
  obtain ⟨W0, HW0⟩ : ∃ W : World, Hid (W = (w.alloc (.cells #[.slice ra rl rc, .slice ca cl cc] 25)).alloc (.cells #[.slice none 0 0, .slice none 0 0] 25)) := ⟨_, rfl⟩
  have Hm0 : Hid (More w W0) := HW0.out ▸ ((More.refl _).alloc _ _).alloc _ _
  have B1 : Hid (Blk W0 (w.heap.size + 1) #[.slice none 0 0, .slice none 0 0] 25) := HW0.out ▸ (by simpa using Blk.last (w.alloc (.cells #[.slice ra rl rc, .slice ca cl cc] 25)) #[.slice none 0 0, .slice none 0 0] 25 : Blk _ (w.heap.size + 1) _ _)
  go_enter Try.func7, Try.ntmps7
  go_wp2_with (fail)
  rw [← HW0.out]
  refine (CG.out W0 Hm0.out).mono ?_
  rintro e w1 ⟨m1, lq, hin, rfl⟩
  have Hm1 : Hid (More W0 w1) := m1
  have Hin : Hid (PIn w1 q lq) := hin
  obtain ⟨a2, Ha2⟩ : ∃ x, Hid (lq.ra = x) := ⟨_, rfl⟩
  obtain ⟨c2, Hc2⟩ : ∃ x, Hid (lq.rc = x) := ⟨_, rfl⟩
  obtain ⟨a3, Ha3⟩ : ∃ x, Hid (lq.ca = x) := ⟨_, rfl⟩
  obtain ⟨c3, Hc3⟩ : ∃ x, Hid (lq.cc = x) := ⟨_, rfl⟩
  rw [Ha2.out, Hc2.out, Ha3.out, Hc3.out]
  clear m1 hin CG
  obtain ⟨W, HW⟩ : ∃ W : World, Hid (W = (w1.alloc (.cells #[.slice a2 rl c2, .slice a3 n c3] 25)).alloc (.cells #[.int .i64 0, .int .i64 0] 29)) := ⟨_, rfl⟩
  have HmW : Hid (More w1 W) := HW.out ▸ ((More.refl _).alloc _ _).alloc _ _
  have D1 : Hid (Blk W w1.heap.size #[.slice a2 rl c2, .slice a3 n c3] 25) := HW.out ▸ (Blk.last _ _ _).alloc _ _
  have D2 : Hid (Blk W (w1.heap.size + 1) #[.int .i64 0, .int .i64 0] 29) := HW.out ▸ (by simpa using Blk.last (w1.alloc (.cells #[.slice a2 rl c2, .slice a3 n c3] 25)) #[.int .i64 0, .int .i64 0] 29 : Blk _ (w1.heap.size + 1) _ _)
  obtain ⟨wd, Hwd⟩ : ∃ w_ : World, Hid (w_ = W.drew) := ⟨_, rfl⟩
  have Hmd : Hid (More W wd) := Hwd.out ▸ (More.refl W).drew
  have hz1 : w.heap.size + 1 < w1.heap.size := (B1.out.more Hm1.out).lt
  obtain ⟨S, HS⟩ : ∃ S : World → Prop, Hid (∀ w', S w' ↔ (Blk w' w1.heap.size #[.slice a2 rl c2, .slice a3 n c3] 25 ∧ Blk w' (w1.heap.size + 1) #[.int .i64 0, .int .i64 0] 29)) := ⟨_, fun _ => Iff.rfl⟩
  have HS1 : S wd := (HS.out _).2 ⟨D1.out.more Hmd.out, D2.out.more Hmd.out⟩
  have HS0 : S W.drew := Hwd.out ▸ HS1
  have k0 : ∀ i : { w' // S w' }, i.val.cell? ⟨w1.heap.size, 0, none⟩ = some (.slice a2 rl c2) := fun i => ((HS.out _).1 i.property).1.cell rfl
  have k1 : ∀ i : { w' // S w' }, i.val.cell? ⟨w1.heap.size, 1, none⟩ = some (.slice a3 n c3) := fun i => ((HS.out _).1 i.property).1.cell rfl
  have k2 : ∀ i : { w' // S w' }, i.val.cell? ⟨w1.heap.size + 1, 0, none⟩ = some (.int .i64 0) := fun i => ((HS.out _).1 i.property).2.cell rfl
  have hne : Nonempty { w' // S w' } := ⟨⟨_, HS0⟩⟩
  have B4 : Hid (Blk wd (w.heap.size + 1) #[.slice none 0 0, .slice none 0 0] 25) := B1.out.more ((Hm1.out.trans HmW.out).trans Hmd.out)
  have a0 : wd.cell? ⟨w.heap.size + 1, 0, none⟩ = some (.slice none 0 0) := B4.out.cell rfl
  have a1 : wd.cell? ⟨w.heap.size + 1, 1, none⟩ = some (.slice none 0 0) := B4.out.cell rfl
  have z0 := B4.out.frozen 0
  have z1 := B4.out.frozen 1
  have HSz : Hid (S ((wd.setCell ⟨w.heap.size + 1, 0, none⟩ (.slice a2 rl c2)).setCell ⟨w.heap.size + 1, 1, none⟩ (.slice a3 n c3))) := (HS.out _).2 ⟨(((HS.out _).1 HS1).1.other (by omega) _ _).other (by omega) _ _, (((HS.out _).1 HS1).2.other (by omega) _ _).other (by omega) _ _⟩
  clear HS1
  go_wp2_with (fail)
  rw [← HW.out]
  refine wp_region_ord (S := S) [(0, true), (1, true), (2, true), (3, true), (4, false), (5, true)] (by kernel_rfl) (by kernel_rfl) (by kernel_rfl) HS0 ?_
  rw [← Hwd.out]
  iterate 4 (refine wpOrd_take rfl (by kernel_rfl) (fun K hK => ?_); go_simp; refine hK _ _ ?_; clear hK K)
  refine wpOrd_busy rfl (by kernel_rfl) (fun K hK => ?_); go_simp
  refine hK _ _ HSz.out ?_; clear hK K
  refine wpOrd_take rfl (by kernel_rfl) (fun K hK => ?_); go_simp; refine hK _ _ ?_; clear hK K
  refine wpOrd_done ?_
  clear k0 k1 k2 hne HS0
  go_wp2
  refine bodyPost_ret (v := .tuple #[.agg #[.slice a2 rl c2, .slice a3 n c3], .bool true]) (by simp [results, Try.results7, go_sem, *]) rfl ?_
  have hin := Hin.out.more (HmW.out.trans Hmd.out)
  have nr : 0 < q.rl → w.heap.size + 1 ≠ lq.rb := fun h => B4.out.apart (hin.regs 0 h).1 (by simp) (by simp)
  have nc : 0 < q.cl → w.heap.size + 1 ≠ lq.cb := fun h => B4.out.apart (hin.code 0 h).1 (by simp) (by simp)
  refine ⟨lq, ⟨hin.hr, hin.hc, ?_, ?_⟩, by rw [Ha2.out, Hc2.out, Ha3.out, Hc3.out], ?_⟩
  · by_cases h : q.rl = 0
    · intro i hi; omega
    · exact (hin.regs.other (nr (by omega)) _ _).other (nr (by omega)) _ _
  · by_cases h : q.cl = 0
    · intro i hi; omega
    · exact (hin.code.other (nc (by omega)) _ _).other (nc (by omega)) _ _
  · exact (((((Hm0.out.trans Hm1.out).trans HmW.out).trans Hmd.out).setCell (by show w.heap.size ≤ _; simp) _).setCell (by show w.heap.size ≤ _; simp) _)

/-- What was loaded of a program without fault. -/
theorem lded_of {p : Prg} (hf : p.Fit) (ok : p.Ok 200 8) (l : Loc) (w : World) (hp : PIn w p l) (g c : Nat) (hw : WordsAt w g 0 (fitP (hardP p)).cl (fun j => encW ((fitP (hardP p)).ins j))) :
    Calls Try.prog 7 #[.agg #[.slice l.ra p.rl l.rc, .slice l.ca p.cl l.cc], .slice (some ⟨g, 0, none⟩) (fitP (hardP p)).cl c] w fun e w' => ∃ lq : Loc, PIn w' (backP (fitP (hardP p))) lq ∧ e = .returned (.tuple #[.agg #[.slice lq.ra p.rl lq.rc, .slice lq.ca (fitP (hardP p)).cl lq.cc], .bool true]) ∧ More w w' :=
  lded_calls p l w hp g _ c _ hw (fun i hi => enc_w32 (small_of (fit_ok ok hf).1.1 ((fit_ok ok hf).2.2.2 i hi)) (fit_room ok hf i hi)) (by have := (fit_ok ok hf).2.2.1; omega) (back_ok (fit_ok ok hf) (fit_room ok hf))

/-- What is loaded of a program without fault: words, and what these are. -/
def Loads (p : Prg) (l : Loc) (w : World) : Prop :=
  Calls Try.prog 5 #[.agg #[.slice l.ra p.rl l.rc, .slice l.ca p.cl l.cc]] w fun e w1 => ∃ g n c, e = .returned (.tuple #[.slice (some ⟨g, 0, none⟩) n c, .agg #[.int .i64 0, .int .i64 0]]) ∧ More w w1 ∧
    ∀ w2, More w1 w2 → Calls Try.prog 7 #[.agg #[.slice l.ra p.rl l.rc, .slice l.ca p.cl l.cc], .slice (some ⟨g, 0, none⟩) n c] w2 fun e w' => ∃ (h : Prg) (lh : Loc), LoadOf p h ∧ PIn w' h lh ∧ e = .returned (.tuple #[.agg #[.slice lh.ra h.rl lh.rc, .slice lh.ca h.cl lh.cc], .bool true]) ∧ More w2 w'
theorem load_loads (p : Prg) (l : Loc) (w : World) (hp : PIn w p l) (hf : p.Fit) (ok : p.Ok 200 8) (lk : KV) (hk : Known p lk) (hc : (checkK p lk).1 = 0) : Loads p l w := by
  unfold Loads
  refine (load_calls p l w hp hf).mono ?_
  rintro e w1 ⟨f, hT, m, ⟨h0, g, c, rfl, hw⟩ | h⟩
  · refine ⟨g, _, c, rfl, m, fun w2 m2 => ?_⟩
    refine (lded_of hf ok l w2 (hp.more (m.trans m2)) g c (fun i hi => m2.cell (hw i hi))).mono ?_
    rintro e w' ⟨lq, h1, h2, h3⟩
    exact ⟨_, lq, ⟨ok, ⟨lk, hk, hc⟩, rfl⟩, h1, h2, h3⟩
  · have : f = checkK p lk := hT.one (.inr ⟨ok, lk, hk, rfl⟩)
    exact absurd (by rw [this]; exact hc) h.1
set_option maxHeartbeats 4000000 in
theorem load_same_walk (p : Prg) (l : Loc) (m : Mem) (ml : MLoc) (fuel : Int) (w : World) (hp : PIn w p l) (hf : p.Fit) (hm : MRaw w m ml) (hwd : ∀ j, j < m.ml → ∀ i, i < m.len j → B64 (m.wd j i)) :
  Calls Try.prog 4 #[.agg #[.slice l.ra p.rl l.rc, .slice l.ca p.cl l.cc], .slice ml.ma m.ml ml.mc, .int .i64 fuel] w fun e w' => e = .returned (.bool true) ∧ More w w' := by
 suffices hP : ∀ P : Ending → World → Prop, (∀ w', More w w' → P (.returned (.bool true)) w') → Calls Try.prog 4 #[.agg #[.slice l.ra p.rl l.rc, .slice l.ca p.cl l.cc], .slice ml.ma m.ml ml.mc, .int .i64 fuel] w P from hP _ (fun w' m => ⟨rfl, m⟩)
 intro P hP0
 have HP : Hid (∀ w', More w w' → P (.returned (.bool true)) w') := hP0
 have H : Hid (PIn w p l ∧ p.Fit ∧ MRaw w m ml ∧ (∀ j, j < m.ml → ∀ i, i < m.len j → B64 (m.wd j i))) := ⟨hp, hf, hm, hwd⟩
 have CK : Hid (p.Ok 200 8 → ∀ lk, Known p lk → (checkK p lk).1 = 0 → ∀ w1 : World, More w w1 → Loads p l w1) := fun ok lk hk hc w1 m1 => load_loads p l w1 (hp.more m1) hf ok lk hk hc
 clear hP0 hp hf hm hwd
 have C1 : Hid (∀ w1 : World, More w w1 → Calls Try.prog 6 #[.agg #[.slice l.ra p.rl l.rc, .slice l.ca p.cl l.cc]] w1 fun e w' => ∃ f : Int × Int, Told p f ∧ e = .returned (.agg #[.int .i64 f.1, .int .i64 f.2]) ∧ More w1 w') := fun w1 m1 => check6_told p l w1 (H.out.1.more m1) H.out.2.1
 have CF : Hid (∀ r : Bool, (r = true ↔ FitsOk p.rl p.log m.ml m.len) → ∀ w1 : World, More w w1 → Calls Try.prog 8 #[.agg #[.slice l.ra p.rl l.rc, .slice l.ca p.cl l.cc], .slice ml.ma m.ml ml.mc] w1 fun e w' => e = .returned (.bool r) ∧ More w1 w') := fun r hr w1 m1 => fits_says p l m ml w1 (H.out.1.more m1) (H.out.2.2.1.more m1) r hr
 have CP : Hid (p.Ok 200 8 → FitsOk p.rl p.log m.ml m.len → fuel ≤ 400 → ∀ w1 : World, More w w1 → Calls Try.prog 9 #[.agg #[.slice l.ra p.rl l.rc, .slice l.ca p.cl l.cc], .slice ml.ma m.ml ml.mc, .int .i64 fuel] w1 fun e w' => ∃ v, e = .returned v ∧ ShownAt w' v (playI p m fuel.toNat) ∧ More w1 w') := fun hok hfit hfu w1 m1 => by
  obtain ⟨f1, f2, f3, f4⟩ := fits_in hok hfit
  exact ref_play_int p l m ml fuel w1 (H.out.1.more m1) ((H.out.2.2.1.more m1).in_ f2 f4) hok.hard H.out.2.1 f1 f3 H.out.2.2.2 (by omega)
 have CH : Hid (∀ h lh, LoadOf p h → p.Ok 200 8 → FitsOk p.rl p.log m.ml m.len → 0 ≤ fuel → fuel ≤ 400 → ∀ w1 : World, More w w1 → PIn w1 h lh →
   (Calls Try.prog 9 #[.agg #[.slice lh.ra h.rl lh.rc, .slice lh.ca h.cl lh.cc], .slice ml.ma m.ml ml.mc, .int .i64 (30 * fuel + 30)] w1 fun e w' => ∃ v, e = .returned v ∧ ShownAt w' v (playI h m (30 * fuel.toNat + 30)) ∧ More w1 w')) := fun h lh q hok hfit f0 f1 w1 m1 hin => by
  obtain ⟨k, _⟩ := (⟨loadOf_like H.out.2.1 q, loadOf_same H.out.2.1 q 400⟩ : Like8 p h ∧ DoesSame p h 30 400)
  obtain ⟨g1, g2, g3, g4⟩ := fits_in hok hfit
  have hfit' := k.fits hfit
  have := ref_play_int h lh m ml (30 * fuel + 30) w1 hin ((H.out.2.2.1.more m1).in_ g2 g4) k.ok k.fit hfit'.2.1 (fun i hi => hfit'.2.2 i (by rw [← hfit'.2.1]; exact hi)) H.out.2.2.2 (by omega)
  rw [show (30 * fuel + 30).toNat = 30 * fuel.toNat + 30 by omega] at this
  exact this
 have HS : Hid (∀ h, LoadOf p h → FitsOk p.rl p.log m.ml m.len → fuel ≤ 400 → ∀ u v w1, ShownAt w1 u (playI h m (30 * fuel.toNat + 30)) → ShownAt w1 v (playI p m fuel.toNat) →
   Calls Try.prog 10 #[u, v] w1 fun e w' => e = .returned (.bool true) ∧ More w1 w') := fun h q hfit hfu u v w1 hu hv => by
  obtain ⟨_, k⟩ := (⟨loadOf_like H.out.2.1 q, loadOf_same H.out.2.1 q 400⟩ : Like8 p h ∧ DoesSame p h 30 400)
  have kk := k m hfit H.out.2.2.2 fuel.toNat (by omega)
  obtain ⟨su, lu, rfl, hu1, hu2⟩ := hu
  obtain ⟨sv, lv, rfl, hv1, hv2⟩ := hv
  obtain ⟨a1, _, _, c1, rfl, _⟩ := hu1
  obtain ⟨a2, _, _, c2, rfl, _⟩ := hv1
  refine same_of _ _ _ _ _ _ _ _ _ _ w1 ⟨_, _, _, rfl⟩ ⟨_, _, _, rfl⟩ ⟨_, _, _, rfl⟩ ⟨_, _, _, rfl⟩ ?_
  rcases kk with kk | ⟨k1, k2, k3⟩
  ·exact .inl kk
  ·exact .inr ⟨k1, k2, fun w2 m2 => ref_memories _ _ _ _ w2 (hu2.more m2) (hv2.more m2) k3⟩
 clear H
 obtain ⟨ra, Hra⟩ : ∃ x, Hid (l.ra = x) := ⟨_, rfl⟩
 obtain ⟨rl, Hrl⟩ : ∃ x, Hid (p.rl = x) := ⟨_, rfl⟩
 obtain ⟨rc, Hrc⟩ : ∃ x, Hid (l.rc = x) := ⟨_, rfl⟩
 obtain ⟨ca, Hca⟩ : ∃ x, Hid (l.ca = x) := ⟨_, rfl⟩
 obtain ⟨cl, Hcl⟩ : ∃ x, Hid (p.cl = x) := ⟨_, rfl⟩
 obtain ⟨cc, Hcc⟩ : ∃ x, Hid (l.cc = x) := ⟨_, rfl⟩
 obtain ⟨mv, Hmv⟩ : ∃ x, Hid (Value.slice ml.ma m.ml ml.mc = x) := ⟨_, rfl⟩
 obtain ⟨FA, HFA⟩ : ∃ x : Prop, Hid (FitsOk p.rl p.log m.ml m.len = x) := ⟨_, rfl⟩
 unfold Loads at CK
 rw [HFA.out] at CF CP CH HS
 rw [Hmv.out] at CF CP CH
 rw [Hra.out, Hrl.out, Hrc.out, Hca.out, Hcl.out, Hcc.out] at C1 CF CP CK
 rw [Hra.out, Hrl.out, Hrc.out, Hca.out, Hcl.out, Hcc.out, Hmv.out]
 clear Hmv HFA Hra Hrl Hrc Hca Hcl Hcc
 go_enter Try.func4, Try.ntmps4
 go_wp2_with (fail)
 refine (C1.out _ ((More.refl _).alloc _ _)).mono ?_
 rintro e w1 ⟨⟨f1, f2⟩, hT, rfl, m1⟩
 dsimp only at hT ⊢
 have Hm1 : Hid (More w w1) := ((More.refl _).alloc _ _).trans m1
 have Hp1 : Hid (Blk w1 w.heap.size #[.slice ra rl rc, .slice ca cl cc] 25) := (Blk.last _ _ _).more m1
 have HT : Hid (Told p (f1, f2)) := hT
 clear m1 hT C1
 by_cases h0 : f1 = 0
 ·subst h0
  obtain ⟨hok, lk, hk, hk0⟩ := HT.out.ok rfl
  have HO : Hid (p.Ok 200 8 ∧ Known p lk ∧ (checkK p lk).1 = 0) := ⟨hok, hk, hk0⟩
  clear hok hk hk0 HT
  have c0 : w1.cell? ⟨w.heap.size, 0, none⟩ = some (.slice ra rl rc) := Hp1.out.cell rfl
  have c1 : w1.cell? ⟨w.heap.size, 1, none⟩ = some (.slice ca cl cc) := Hp1.out.cell rfl
  have z1 := Hp1.out.lt
  by_cases hA : FA
  ·have CF1 : Hid (∀ w1 : World, More w w1 → Calls Try.prog 8 #[.agg #[.slice ra rl rc, .slice ca cl cc], mv] w1 fun e w' => e = .returned (.bool true) ∧ More w1 w') := CF.out true ⟨fun _ => hA, fun _ => rfl⟩
   clear CF
   go_wp2_with (fail)
   refine (CF1.out _ (Hm1.out.alloc _ _)).mono ?_
   rintro e w2 ⟨rfl, m2⟩
   have Hm2 : Hid (More w w2) := (Hm1.out.alloc _ _).trans m2
   have Hp2 : Hid (Blk w2 w.heap.size #[.slice ra rl rc, .slice ca cl cc] 25) := (Hp1.out.alloc _ _).more m2
   clear m2 c0 c1 z1 CF1
   have c0 : w2.cell? ⟨w.heap.size, 0, none⟩ = some (.slice ra rl rc) := Hp2.out.cell rfl
   have c1 : w2.cell? ⟨w.heap.size, 1, none⟩ = some (.slice ca cl cc) := Hp2.out.cell rfl
   by_cases hf0 : fuel < 0
   ·have d0 : decide (fuel < 0) = true := by simp [hf0]
    have Hend : Hid (P (.returned (.bool true)) w2) := HP.out _ Hm2.out
    clear CP CK CH HS HP
    go_wp2
    exact Hend.out
   have d0 : decide (fuel < 0) = false := by simp; omega
   by_cases hf1 : 400 < fuel
   ·have d1 : decide (400 < fuel) = true := by simp [hf1]
    have Hend : Hid (P (.returned (.bool true)) w2) := HP.out _ Hm2.out
    clear CP CK CH HS HP
    go_wp2
    exact Hend.out
   have d1 : decide (400 < fuel) = false := by simp; omega
   have hw1 : wrap64 (30 * fuel) = 30 * fuel := by unfold wrap64; omega
   have hw2 : wrap64 (30 * fuel + 30) = 30 * fuel + 30 := by unfold wrap64; omega
   have hv1 : IntKind.i64.wrap (30 * fuel) = 30 * fuel := by rw [IntKind.wrap_i64]; omega
   have hv2 : IntKind.i64.wrap (30 * fuel + 30) = 30 * fuel + 30 := by rw [IntKind.wrap_i64]; omega
   have CK1 := CK.out HO.out.1 lk HO.out.2.1 HO.out.2.2
   have CK2 : Hid (∀ w1 : World, More w w1 → Calls Try.prog 5 #[.agg #[.slice ra rl rc, .slice ca cl cc]] w1 fun e w' => ∃ g n c, e = .returned (.tuple #[.slice (some ⟨g, 0, none⟩) n c, .agg #[.int .i64 0, .int .i64 0]]) ∧ More w1 w' ∧ ∀ w2, More w' w2 → Calls Try.prog 7 #[.agg #[.slice ra rl rc, .slice ca cl cc], .slice (some ⟨g, 0, none⟩) n c] w2 fun e w' => ∃ (h : Prg) (lh : Loc), LoadOf p h ∧ PIn w' h lh ∧ e = .returned (.tuple #[.agg #[.slice lh.ra h.rl lh.rc, .slice lh.ca h.cl lh.cc], .bool true]) ∧ More w2 w') := CK1
   clear CK CK1
   go_wp2_with (fail)
   refine (CK2.out _ Hm2.out).mono ?_
   rintro e wx ⟨g, n, c, rfl, mx, hx⟩
   have Hmx : Hid (More w wx) := Hm2.out.trans mx
   have Hpx : Hid (Blk wx w.heap.size #[.slice ra rl rc, .slice ca cl cc] 25) := Hp2.out.more mx
   have Hx : Hid (∀ w2, More wx w2 → Calls Try.prog 7 #[.agg #[.slice ra rl rc, .slice ca cl cc], .slice (some ⟨g, 0, none⟩) n c] w2 fun e w' => ∃ (h : Prg) (lh : Loc), LoadOf p h ∧ PIn w' h lh ∧ e = .returned (.tuple #[.agg #[.slice lh.ra h.rl lh.rc, .slice lh.ca h.cl lh.cc], .bool true]) ∧ More w2 w') := hx
   clear mx hx CK2 c0 c1
   obtain ⟨wy, Hwy⟩ : ∃ w_ : World, Hid (w_ = wx.alloc (.cells #[.int .i64 0, .int .i64 0] 29)) := ⟨_, rfl⟩
   have Hmy : Hid (More wx wy) := Hwy.out ▸ (More.refl _).alloc _ _
   have Hfy : Hid (Blk wy wx.heap.size #[.int .i64 0, .int .i64 0] 29) := Hwy.out ▸ Blk.last _ _ _
   have c0 : wx.cell? ⟨w.heap.size, 0, none⟩ = some (.slice ra rl rc) := Hpx.out.cell rfl
   have c1 : wx.cell? ⟨w.heap.size, 1, none⟩ = some (.slice ca cl cc) := Hpx.out.cell rfl
   have zx := Hpx.out.lt
   go_wp2_with (fail)
   rw [← Hwy.out]
   refine (Hx.out wy Hmy.out).mono ?_
   rintro e w3 ⟨h, lh, hq, hin, rfl, m3⟩
   have CH1 : Hid (∀ w1 : World, More w w1 → PIn w1 h lh → _) := CH.out h lh hq HO.out.1 hA (by omega) (by omega)
   have HS1 := HS.out h hq hA (by omega)
   have HS2 : Hid (∀ u v w1, ShownAt w1 u (playI h m (30 * fuel.toNat + 30)) → ShownAt w1 v (playI p m fuel.toNat) → Calls Try.prog 10 #[u, v] w1 fun e w' => e = .returned (.bool true) ∧ More w1 w') := HS1
   have CP1 : Hid (∀ w1 : World, More w w1 → Calls Try.prog 9 #[.agg #[.slice ra rl rc, .slice ca cl cc], mv, .int .i64 fuel] w1 fun e w' => ∃ v, e = .returned v ∧ ShownAt w' v (playI p m fuel.toNat) ∧ More w1 w') := CP.out HO.out.1 hA (by omega)
   clear CH HS HS1 CP
   have Hm3 : Hid (More w w3) := (Hmx.out.trans Hmy.out).trans m3
   have Hp3 : Hid (Blk w3 w.heap.size #[.slice ra rl rc, .slice ca cl cc] 25) := Hpx.out.more (Hmy.out.trans m3)
   have Hf3 : Hid (Blk w3 wx.heap.size #[.int .i64 0, .int .i64 0] 29) := Hfy.out.more m3
   have Hin3 : Hid (PIn w3 h lh) := hin
   obtain ⟨ra', Hra'⟩ : ∃ x, Hid (lh.ra = x) := ⟨_, rfl⟩
   obtain ⟨rl', Hrl'⟩ : ∃ x, Hid (h.rl = x) := ⟨_, rfl⟩
   obtain ⟨rc', Hrc'⟩ : ∃ x, Hid (lh.rc = x) := ⟨_, rfl⟩
   obtain ⟨ca', Hca'⟩ : ∃ x, Hid (lh.ca = x) := ⟨_, rfl⟩
   obtain ⟨cl', Hcl'⟩ : ∃ x, Hid (h.cl = x) := ⟨_, rfl⟩
   obtain ⟨cc', Hcc'⟩ : ∃ x, Hid (lh.cc = x) := ⟨_, rfl⟩
   rw [Hra'.out, Hrl'.out, Hrc'.out, Hca'.out, Hcl'.out, Hcc'.out] at CH1 ⊢
   clear hin hq m3 c0 c1 zx Hx
   have c0 : w3.cell? ⟨w.heap.size, 0, none⟩ = some (.slice ra rl rc) := Hp3.out.cell rfl
   have c1 : w3.cell? ⟨w.heap.size, 1, none⟩ = some (.slice ca cl cc) := Hp3.out.cell rfl
   have f0 : w3.cell? ⟨wx.heap.size, 0, none⟩ = some (.int .i64 0) := Hf3.out.cell rfl
   have z3 := Hp3.out.lt
   have z4 := Hf3.out.lt
   obtain ⟨w6, Hw4⟩ : ∃ w_ : World, Hid (w_ = w3.alloc (.cells #[.slice ra' rl' rc', .slice ca' cl' cc'] 25)) := ⟨_, rfl⟩
   have Hm6 : Hid (More w3 w6) := by rw [Hw4.out]; exact (More.refl _).alloc _ _
   have Hb6 : Hid (Blk w6 w3.heap.size #[.slice ra' rl' rc', .slice ca' cl' cc'] 25) := by rw [Hw4.out]; exact Blk.last _ _ _
   go_wp2_with (fail)
   rw [← Hw4.out]
   refine (CP1.out w6 (Hm3.out.trans Hm6.out)).mono ?_
   rintro e w7 ⟨v, rfl, hv, m7⟩
   have hv0 := hv
   obtain ⟨sv, lv, rfl, hv1, hv2⟩ := hv
   obtain ⟨sa, sb, so, sc, rfl, _⟩ := hv1
   obtain ⟨x1, hx1⟩ : ∃ x, (playI p m fuel.toNat).fin = x := ⟨_, rfl⟩
   obtain ⟨x2, hx2⟩ : ∃ x, (playI p m fuel.toNat).val = x := ⟨_, rfl⟩
   obtain ⟨x3, hx3⟩ : ∃ x, (playI p m fuel.toNat).steps = x := ⟨_, rfl⟩
   obtain ⟨x4, hx4⟩ : ∃ x, (playI p m fuel.toNat).seen.length = x := ⟨_, rfl⟩
   obtain ⟨x5, hx5⟩ : ∃ x, (playI p m fuel.toNat).mem.ml = x := ⟨_, rfl⟩
   rw [hx1, hx2, hx3, hx4, hx5] at hv0 ⊢
   have Hm7 : Hid (More w3 w7) := Hm6.out.trans m7
   have Hb7 : Hid (Blk w7 w3.heap.size #[.slice ra' rl' rc', .slice ca' cl' cc'] 25) := Hb6.out.more m7
   obtain ⟨w8, Hw8⟩ : ∃ w_ : World, Hid (w_ = w7.alloc (.cells #[.int .i64 x1, .int .i64 x2, .int .i64 x3, .slice sa x4 sc, .slice lv.ma x5 lv.mc] 40)) := ⟨_, rfl⟩
   have Hm8 : Hid (More w7 w8) := Hw8.out ▸ (More.refl _).alloc _ _
   have Hv : Hid (ShownAt w7 (.agg #[.int .i64 x1, .int .i64 x2, .int .i64 x3, .slice sa x4 sc, .slice lv.ma x5 lv.mc]) (playI p m fuel.toNat)) := hv0
   have Hc8 : Hid (Blk w8 w7.heap.size #[.int .i64 x1, .int .i64 x2, .int .i64 x3, .slice sa x4 sc, .slice lv.ma x5 lv.mc] 40) := Hw8.out ▸ Blk.last _ _ _
   clear hv0 hv2 m7 hx1 hx2 hx3 hx4 hx5 c0 c1 f0 z3 z4
   have b0 : w7.cell? ⟨w3.heap.size, 0, none⟩ = some (.slice ra' rl' rc') := Hb7.out.cell rfl
   have b1 : w7.cell? ⟨w3.heap.size, 1, none⟩ = some (.slice ca' cl' cc') := Hb7.out.cell rfl
   have z7 := Hb7.out.lt
   go_wp2_with (fail)
   rw [← Hw8.out]
   refine (CH1.out w8 (Hm3.out.trans (Hm7.out.trans Hm8.out)) (Hin3.out.more (Hm7.out.trans Hm8.out))).mono ?_
   rintro e w9 ⟨u, rfl, hu, m9⟩
   have hu0 := hu
   obtain ⟨su, lu, rfl, hu1, hu2⟩ := hu
   obtain ⟨ta, tb, to_, tc, rfl, _⟩ := hu1
   obtain ⟨y1, hy1⟩ : ∃ x, (playI h m (30 * fuel.toNat + 30)).fin = x := ⟨_, rfl⟩
   obtain ⟨y2, hy2⟩ : ∃ x, (playI h m (30 * fuel.toNat + 30)).val = x := ⟨_, rfl⟩
   obtain ⟨y3, hy3⟩ : ∃ x, (playI h m (30 * fuel.toNat + 30)).steps = x := ⟨_, rfl⟩
   obtain ⟨y4, hy4⟩ : ∃ x, (playI h m (30 * fuel.toNat + 30)).seen.length = x := ⟨_, rfl⟩
   obtain ⟨y5, hy5⟩ : ∃ x, (playI h m (30 * fuel.toNat + 30)).mem.ml = x := ⟨_, rfl⟩
   rw [hy1, hy2, hy3, hy4, hy5] at hu0 ⊢
   obtain ⟨wa, Hwa⟩ : ∃ w_ : World, Hid (w_ = w9.alloc (.cells #[.int .i64 y1, .int .i64 y2, .int .i64 y3, .slice ta y4 tc, .slice lu.ma y5 lu.mc] 40)) := ⟨_, rfl⟩
   have Hma : Hid (More w9 wa) := Hwa.out ▸ (More.refl _).alloc _ _
   have HMa : Hid (More w wa) := (Hm3.out.trans (Hm7.out.trans Hm8.out)).trans (m9.trans Hma.out)
   have CS : Hid (Calls Try.prog 10 #[.agg #[.int .i64 y1, .int .i64 y2, .int .i64 y3, .slice ta y4 tc, .slice lu.ma y5 lu.mc], .agg #[.int .i64 x1, .int .i64 x2, .int .i64 x3, .slice sa x4 sc, .slice lv.ma x5 lv.mc]] wa fun e w' => e = .returned (.bool true) ∧ More wa w') :=
    HS2.out _ _ wa (hu0.more Hma.out) (Hv.out.more (Hm8.out.trans (m9.trans Hma.out)))
   have Hc9 : Hid (Blk w9 w7.heap.size #[.int .i64 x1, .int .i64 x2, .int .i64 x3, .slice sa x4 sc, .slice lv.ma x5 lv.mc] 40) := Hc8.out.more m9
   clear hu0 hu2 m9 hy1 hy2 hy3 hy4 hy5 b0 b1 z7 CH1 CP1 HS2
   have a0 : w9.cell? ⟨w7.heap.size, 0, none⟩ = some (.int .i64 x1) := Hc9.out.cell rfl
   have a1 : w9.cell? ⟨w7.heap.size, 1, none⟩ = some (.int .i64 x2) := Hc9.out.cell rfl
   have a2 : w9.cell? ⟨w7.heap.size, 2, none⟩ = some (.int .i64 x3) := Hc9.out.cell rfl
   have a3 : w9.cell? ⟨w7.heap.size, 3, none⟩ = some (.slice sa x4 sc) := Hc9.out.cell rfl
   have a4 : w9.cell? ⟨w7.heap.size, 4, none⟩ = some (.slice lv.ma x5 lv.mc) := Hc9.out.cell rfl
   have z9 := Hc9.out.lt
   go_wp2_with (fail)
   rw [← Hwa.out]
   refine CS.out.mono ?_
   rintro e wz ⟨rfl, mz⟩
   have Hend : Hid (P (.returned (.bool true)) wz) := HP.out _ (HMa.out.trans mz)
   clear mz CS a0 a1 a2 a3 a4
   go_wp2
   exact Hend.out
  ·have CF1 : Hid (∀ w1 : World, More w w1 → Calls Try.prog 8 #[.agg #[.slice ra rl rc, .slice ca cl cc], mv] w1 fun e w' => e = .returned (.bool false) ∧ More w1 w') := CF.out false ⟨fun q => absurd q (by simp), fun q => absurd q hA⟩
   clear CF CP CK CH HS
   go_wp2_with (fail)
   refine (CF1.out _ (Hm1.out.alloc _ _)).mono ?_
   rintro e w2 ⟨rfl, m2⟩
   have Hend : Hid (P (.returned (.bool true)) w2) := HP.out _ ((Hm1.out.alloc _ _).trans m2)
   clear m2 CF1
   go_wp2
   exact Hend.out
 ·have e0 : (f1 == 0) = false := by simp [h0]
  have e1 : (f1 != 0) = true := by simp [h0]
  have Hend : Hid (∀ w', More w1 w' → P (.returned (.bool true)) w') := fun w' m' => HP.out _ (Hm1.out.trans m')
  clear h0 CF CP CK CH HS HT
  go_wp2
  exact Hend.out _ ((More.refl _).alloc _ _)
end
end Go.Proofs.Ytlbfbjeilfcjeaa
