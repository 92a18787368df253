/-
  The texts R8, TxLaws, TcMatch, TcTake, TcRead, TcIns, LastM, TcRdr, TcLines, TcCut, one behind the other, with what is used of them.
-/
import Derived.Test.YtoedgnedallhnaaDoorRows
import Derived.WalkKit
import Derived.Deep.LoopGhost
import Derived.Test.YtoedgnedallhnaaDoorJoined0
import Derived.Test.YtoedgnedallhnaaDoorJoined1
import Derived.Test.YtoedgnedallhnaaDoorJoined3
import Derived.Test.YtoedgnedallhnaaDoorJoined2
namespace Go.Proofs.YtoedgnedallhnaaDoor
section
open Go.RowKit
set_option linter.unusedSimpArgs false
set_option linter.unusedVariables false
set_option maxRecDepth 8000
/-- Two programs are one. -/
structure Prg.Eq8 (p q : Prg) : Prop where
  rl : p.rl = q.rl
  reg : ∀ i, i < p.rl → p.log i = q.log i ∧ p.sec i = q.sec i
  cl : p.cl = q.cl
  ins : ∀ i, i < p.cl → p.ins i = q.ins i

set_option maxHeartbeats 2000000 in
theorem same8_true (p q : Prg) (l l' : Loc) (w : World) (hp : PIn w p l) (hq : PIn w q l') (h : p.Eq8 q) (hrl : p.rl < 4611686018427387904) (hcl : p.cl < 4611686018427387904) :
    Calls Tryd.prog 12 #[.agg #[.slice l.ra p.rl l.rc, .slice l.ca p.cl l.cc], .agg #[.slice l'.ra q.rl l'.rc, .slice l'.ca q.cl l'.cc]] w fun e w' => e = .returned (.bool true) ∧ More w w' := by
  have H : Hid (PIn w p l ∧ PIn w q l' ∧ p.Eq8 q) := ⟨hp, hq, h⟩
  rw [← h.rl, ← h.cl]
  clear hp hq h
  obtain ⟨rl, Hrl⟩ : ∃ x, Hid (p.rl = x) := ⟨_, rfl⟩
  obtain ⟨cl, Hcl⟩ : ∃ x, Hid (p.cl = x) := ⟨_, rfl⟩
  obtain ⟨ra, rb, ro, rc, ca, cb, co, cc⟩ := l
  obtain ⟨ra', rb', ro', rc', ca', cb', co', cc'⟩ := l'
  dsimp only
  rw [Hrl.out] at hrl
  rw [Hcl.out] at hcl
  rw [Hrl.out, Hcl.out]
  obtain ⟨W, HW⟩ : ∃ W : World, Hid (W = (w.alloc (.cells #[.slice ra rl rc, .slice ca cl cc] 25)).alloc (.cells #[.slice ra' rl rc', .slice ca' cl cc'] 25)) := ⟨_, rfl⟩
  have HM : Hid (More w W) := by rw [HW.out]; exact ((More.refl _).alloc _ _).alloc _ _
  have b0 : W.cell? ⟨w.heap.size, 0, none⟩ = some (.slice ra rl rc) := by rw [HW.out]; go_simp
  have b1 : W.cell? ⟨w.heap.size, 1, none⟩ = some (.slice ca cl cc) := by rw [HW.out]; go_simp
  have b2 : W.cell? ⟨w.heap.size + 1, 0, none⟩ = some (.slice ra' rl rc') := by rw [HW.out]; go_simp
  have b3 : W.cell? ⟨w.heap.size + 1, 1, none⟩ = some (.slice ca' cl cc') := by rw [HW.out]; go_simp
  have HB : Hid (∀ w', More W w' → w'.cell? ⟨w.heap.size, 0, none⟩ = some (.slice ra rl rc) ∧ w'.cell? ⟨w.heap.size, 1, none⟩ = some (.slice ca cl cc) ∧ w'.cell? ⟨w.heap.size + 1, 0, none⟩ = some (.slice ra' rl rc') ∧ w'.cell? ⟨w.heap.size + 1, 1, none⟩ = some (.slice ca' cl cc')) := fun w' m => ⟨m.cell b0, m.cell b1, m.cell b2, m.cell b3⟩
  go_enter Tryd.func12, Tryd.ntmps12
  go_wp2_with (fail)
  rw [← HW.out]
  clear b0 b1 b2 b3
  go_loopg [5] rl (fun g iv wr => ∃ k : Nat, k + g = rl ∧ iv = .int .i64 k ∧ Hid (More W wr))
  case atStart => exact ⟨0, by omega, rfl, More.refl _⟩
  case round =>
    obtain ⟨k, hkg, rfl, Hr⟩ := hrel
    obtain ⟨b0, b1, b2, b3⟩ := HB.out wr Hr.out
    cases gk with
    | zero =>
      obtain rfl : k = rl := by omega
      go_wp2_with (fail)
      go_loopg [6] cl (fun g iv wr => ∃ k : Nat, k + g = cl ∧ iv = .int .i64 k ∧ Hid (More W wr))
      case atStart => exact ⟨0, by omega, rfl, Hr.out⟩
      case round =>
        clear b0 b1 b2 b3
        obtain ⟨j, hjg, rfl, Hs⟩ := hrel
        obtain ⟨b0, b1, b2, b3⟩ := HB.out wr Hs.out
        cases gk with
        | zero =>
          obtain rfl : j = cl := by omega
          go_wp2
          go_ret
          exact ⟨rfl, HM.out.trans Hs.out⟩
        | succ g =>
          have hj : j < cl := by omega
          have hji : (j : Int) < cl := by omega
          have hj63 : wrap64 ((j : Int) + 1) = (j : Int) + 1 := by unfold wrap64; omega
          have hjp : j < p.cl := by rw [Hcl.out]; exact hj
          have q1 := (H.out.1.code.more (HM.out.trans Hs.out)) j hjp
          have q2 := (H.out.2.1.code.more (HM.out.trans Hs.out)) j (by rw [← H.out.2.2.cl]; exact hjp)
          rw [← H.out.2.2.ins j hjp] at q2
          obtain rfl : ca = some ⟨cb, co, none⟩ := H.out.1.hc (by omega)
          obtain rfl : ca' = some ⟨cb', co', none⟩ := H.out.2.1.hc (by rw [← H.out.2.2.cl]; omega)
          dsimp only at q1 q2
          obtain ⟨i, hi⟩ : ∃ i, p.ins j = i := ⟨_, rfl⟩
          rw [hi] at q1 q2
          obtain ⟨op, a, b, c, n⟩ := i
          dsimp only at q1 q2
          obtain ⟨x0, x1, x2, x3, x4⟩ := q1
          obtain ⟨y0, y1, y2, y3, y4⟩ := q2
          clear hi hjp
          obtain ⟨S, HS⟩ : ∃ S : World → Prop, Hid (∀ w', S w' ↔ More wr w') := ⟨_, fun _ => Iff.rfl⟩
          have HS0 : S wr.drew := (HS.out _).2 (More.refl _).drew
          have hne : Nonempty { w' // S w' } := ⟨⟨_, HS0⟩⟩
          have k0 : ∀ i : { w' // S w' }, i.val.cell? ⟨w.heap.size, 1, none⟩ = some (.slice (some ⟨cb, co, none⟩) cl cc) := fun i => ((HS.out _).1 i.property).cell b1
          have k1 : ∀ i : { w' // S w' }, i.val.cell? ⟨w.heap.size + 1, 1, none⟩ = some (.slice (some ⟨cb', co', none⟩) cl cc') := fun i => ((HS.out _).1 i.property).cell b3
          have k2 : ∀ i : { w' // S w' }, i.val.cell? ⟨cb, co + j * 5, none⟩ = some (.int .i64 op) := fun i => ((HS.out _).1 i.property).cell x0
          have k3 : ∀ i : { w' // S w' }, i.val.cell? ⟨cb', co' + j * 5, none⟩ = some (.int .i64 op) := fun i => ((HS.out _).1 i.property).cell y0
          have k4 : ∀ i : { w' // S w' }, i.val.cell? ⟨cb, co + j * 5 + 1, none⟩ = some (.int .i64 a) := fun i => ((HS.out _).1 i.property).cell x1
          have k5 : ∀ i : { w' // S w' }, i.val.cell? ⟨cb', co' + j * 5 + 1, none⟩ = some (.int .i64 a) := fun i => ((HS.out _).1 i.property).cell y1
          have k6 : ∀ i : { w' // S w' }, i.val.cell? ⟨cb, co + j * 5 + 2, none⟩ = some (.int .i64 b) := fun i => ((HS.out _).1 i.property).cell x2
          have k7 : ∀ i : { w' // S w' }, i.val.cell? ⟨cb', co' + j * 5 + 2, none⟩ = some (.int .i64 b) := fun i => ((HS.out _).1 i.property).cell y2
          have k8 : ∀ i : { w' // S w' }, i.val.cell? ⟨cb, co + j * 5 + 3, none⟩ = some (.int .i64 c) := fun i => ((HS.out _).1 i.property).cell x3
          have k9 : ∀ i : { w' // S w' }, i.val.cell? ⟨cb', co' + j * 5 + 3, none⟩ = some (.int .i64 c) := fun i => ((HS.out _).1 i.property).cell y3
          have k10 : ∀ i : { w' // S w' }, i.val.cell? ⟨cb, co + j * 5 + 4, none⟩ = some (.int .i64 n) := fun i => ((HS.out _).1 i.property).cell x4
          have k11 : ∀ i : { w' // S w' }, i.val.cell? ⟨cb', co' + j * 5 + 4, none⟩ = some (.int .i64 n) := fun i => ((HS.out _).1 i.property).cell y4
          go_wp2_with (fail)
          refine wp_region_ord (S := S) [(0, true), (1, true), (2, true), (3, true), (4, true), (5, true), (6, true), (7, true), (8, true), (9, true), (10, true)] (by kernel_rfl) (by kernel_rfl) (by kernel_rfl) HS0 ?_
          iterate 11 (refine wpOrd_take rfl (by kernel_rfl) (fun K hK => ?_); go_simp; refine hK _ _ ?_; clear hK K)
          refine wpOrd_done ?_
          clear hne HS0 k0 k1 k2 k3 k4 k5 k6 k7 k8 k9 k10 k11
          go_wp2
          go_roundg g
          case measure => omega
          case rel => exact ⟨j + 1, by omega, by first | rfl | simp, Hs.out.trans (More.refl _).drew⟩
    | succ g =>
      have hk : k < rl := by omega
      have hki : (k : Int) < rl := by omega
      have hk63 : wrap64 ((k : Int) + 1) = (k : Int) + 1 := by unfold wrap64; omega
      have hkp : k < p.rl := by rw [Hrl.out]; exact hk
      have q1 := (H.out.1.regs.more (HM.out.trans Hr.out)) k hkp
      have q2 := (H.out.2.1.regs.more (HM.out.trans Hr.out)) k (by rw [← H.out.2.2.rl]; exact hkp)
      rw [← (H.out.2.2.reg k hkp).1, ← (H.out.2.2.reg k hkp).2] at q2
      obtain rfl : ra = some ⟨rb, ro, none⟩ := H.out.1.hr (by omega)
      obtain rfl : ra' = some ⟨rb', ro', none⟩ := H.out.2.1.hr (by rw [← H.out.2.2.rl]; omega)
      dsimp only at q1 q2
      obtain ⟨lg, hlg⟩ : ∃ i, p.log k = i := ⟨_, rfl⟩
      obtain ⟨sc, hsc⟩ : ∃ i, p.sec k = i := ⟨_, rfl⟩
      rw [hlg, hsc] at q1 q2
      obtain ⟨x0, x1⟩ := q1
      obtain ⟨y0, y1⟩ := q2
      clear hlg hsc hkp
      obtain ⟨S, HS⟩ : ∃ S : World → Prop, Hid (∀ w', S w' ↔ More wr w') := ⟨_, fun _ => Iff.rfl⟩
      have HS0 : S wr.drew := (HS.out _).2 (More.refl _).drew
      have hne : Nonempty { w' // S w' } := ⟨⟨_, HS0⟩⟩
      have k0 : ∀ i : { w' // S w' }, i.val.cell? ⟨w.heap.size, 0, none⟩ = some (.slice (some ⟨rb, ro, none⟩) rl rc) := fun i => ((HS.out _).1 i.property).cell b0
      have k1 : ∀ i : { w' // S w' }, i.val.cell? ⟨w.heap.size + 1, 0, none⟩ = some (.slice (some ⟨rb', ro', none⟩) rl rc') := fun i => ((HS.out _).1 i.property).cell b2
      have k2 : ∀ i : { w' // S w' }, i.val.cell? ⟨rb, ro + k * 2, none⟩ = some (.int .i64 lg) := fun i => ((HS.out _).1 i.property).cell x0
      have k3 : ∀ i : { w' // S w' }, i.val.cell? ⟨rb, ro + k * 2 + 1, none⟩ = some (.bool sc) := fun i => ((HS.out _).1 i.property).cell x1
      have k4 : ∀ i : { w' // S w' }, i.val.cell? ⟨rb', ro' + k * 2, none⟩ = some (.int .i64 lg) := fun i => ((HS.out _).1 i.property).cell y0
      have k5 : ∀ i : { w' // S w' }, i.val.cell? ⟨rb', ro' + k * 2 + 1, none⟩ = some (.bool sc) := fun i => ((HS.out _).1 i.property).cell y1
      go_wp2_with (fail)
      refine wp_region_ord (S := S) [(0, true), (1, true), (2, true), (3, true), (4, true), (5, true), (6, true), (7, true), (8, true), (9, true), (10, true)] (by kernel_rfl) (by kernel_rfl) (by kernel_rfl) HS0 ?_
      iterate 11 (refine wpOrd_take rfl (by kernel_rfl) (fun K hK => ?_); go_simp; refine hK _ _ ?_; clear hK K)
      refine wpOrd_done ?_
      clear hne HS0 k0 k1 k2 k3 k4 k5
      go_wp2
      go_roundg g
      case measure => omega
      case rel => exact ⟨k + 1, by omega, by first | rfl | simp, Hr.out.trans (More.refl _).drew⟩
/-- What Print is to come to, from a world on. -/
def PrintIs (w0 : World) : Prop := ∀ (p : Prg) (l : Loc) (w : World), More w0 w → PIn w p l → p.Fit → Calls Tryd.prog 7 #[.agg #[.slice l.ra p.rl l.rc, .slice l.ca p.cl l.cc]] w fun e w' => More w w' ∧ ((p.Ok 8000 10 ∧ e = .returned (.tuple #[.string (txt (textL p)), .int .i64 0])) ∨ (¬ p.Ok 8000 10 ∧ e = .returned (.tuple #[.string (txt []), .int .i64 2])))
/-- What Parse is to come to, from a world on. -/
def ParseIs (w0 : World) : Prop := ∀ (s : List UInt8) (w : World), More w0 w → s.length ≤ 140737488355328 → Calls Tryd.prog 10 #[.string (txt s)] w (ParsAns s w)

set_option maxHeartbeats 2000000 in
theorem text_prints_walk (p : Prg) (l : Loc) (w : World) (HPr : PrintIs w) (hp : PIn w p l) (hf : p.Fit) : Calls Tryd.prog 3 #[.agg #[.slice l.ra p.rl l.rc, .slice l.ca p.cl l.cc]] w fun e w' => e = .returned (.bool true) ∧ More w w' := by
  suffices hP : ∀ P : Ending → World → Prop, (∀ w', More w w' → P (.returned (.bool true)) w') → Calls Tryd.prog 3 #[.agg #[.slice l.ra p.rl l.rc, .slice l.ca p.cl l.cc]] w P from hP _ (fun w' m => ⟨rfl, m⟩)
  intro P hP0
  have HP : Hid (∀ w', More w w' → P (.returned (.bool true)) w') := hP0
  clear hP0
  have C1 : Hid (∀ w1, More w w1 → Calls Tryd.prog 7 #[.agg #[.slice l.ra p.rl l.rc, .slice l.ca p.cl l.cc]] w1 fun e w' => ∃ (d : ByteArray) (x : Int), e = .returned (.tuple #[.string d, .int .i64 x]) ∧ More w1 w' ∧ ((p.Ok 8000 10 ∧ d = txt (textL p) ∧ x = 0) ∨ (¬ p.Ok 8000 10 ∧ d = txt [] ∧ x = 2))) := fun w1 m => by
    refine (HPr p l w1 m (hp.more m) hf).mono ?_
    rintro e w' ⟨mm, ⟨ok, rfl⟩ | ⟨ok, rfl⟩⟩
    · exact ⟨_, _, rfl, mm, .inl ⟨ok, rfl, rfl⟩⟩
    · exact ⟨_, _, rfl, mm, .inr ⟨ok, rfl, rfl⟩⟩
  have C2 : Hid (∀ w1, More w w1 → Calls Tryd.prog 8 #[.agg #[.slice l.ra p.rl l.rc, .slice l.ca p.cl l.cc]] w1 fun e w' => ∃ r : Bool, e = .returned (.bool r) ∧ (r = true ↔ p.Ok 8000 10) ∧ More w1 w') := fun w1 m => ref_hard p l w1 (hp.more m)
  have C3 : Hid (∀ w1, More w w1 → p.Ok 8000 10 → Calls Tryd.prog 9 #[.agg #[.slice l.ra p.rl l.rc, .slice l.ca p.cl l.cc]] w1 fun e w' => ∃ d : ByteArray, e = .returned (.string d) ∧ d = txt (textL p) ∧ More w1 w') := fun w1 m ok => (text12_calls p l w1 (hp.more m) ok hf).mono (fun e w' h => ⟨_, h.1, rfl, h.2⟩)
  clear hp hf HPr
  obtain ⟨ra, Hra⟩ : ∃ x, Hid (l.ra = x) := ⟨_, rfl⟩
  obtain ⟨rl, Hrl⟩ : ∃ x, Hid (p.rl = x) := ⟨_, rfl⟩
  obtain ⟨rc, Hrc⟩ : ∃ x, Hid (l.rc = x) := ⟨_, rfl⟩
  obtain ⟨ca, Hca⟩ : ∃ x, Hid (l.ca = x) := ⟨_, rfl⟩
  obtain ⟨cl, Hcl⟩ : ∃ x, Hid (p.cl = x) := ⟨_, rfl⟩
  obtain ⟨cc, Hcc⟩ : ∃ x, Hid (l.cc = x) := ⟨_, rfl⟩
  rw [Hra.out, Hrl.out, Hrc.out, Hca.out, Hcl.out, Hcc.out] at C1 C2 C3 ⊢
  obtain ⟨W, HW⟩ : ∃ w_ : World, Hid (w_ = w.alloc (.cells #[.slice ra rl rc, .slice ca cl cc] 25)) := ⟨_, rfl⟩
  have HmW : Hid (More w W) := HW.out ▸ (More.refl _).alloc _ _
  have HbW : Hid (Blk W w.heap.size #[.slice ra rl rc, .slice ca cl cc] 25) := HW.out ▸ Blk.last _ _ _
  go_enter Tryd.func3, Tryd.ntmps3
  go_wp2_with (fail)
  rw [← HW.out]
  refine (C1.out W HmW.out).mono ?_
  rintro e w1 ⟨d, x, rfl, m1, hd⟩
  have Hm1 : Hid (More W w1) := m1
  have HD := hid_of0 hd
  clear m1 hd C1
  have b0 : w1.cell? ⟨w.heap.size, 0, none⟩ = some (.slice ra rl rc) := (HbW.out.more Hm1.out).cell rfl
  have b1 : w1.cell? ⟨w.heap.size, 1, none⟩ = some (.slice ca cl cc) := (HbW.out.more Hm1.out).cell rfl
  go_wp2_with (fail)
  refine (C2.out w1 (HmW.out.trans Hm1.out)).mono ?_
  rintro e w2 ⟨r, rfl, hr, m2⟩
  have Hm2 : Hid (More w1 w2) := m2
  have HR := hid_of0 hr
  clear m2 hr C2 b0 b1
  have b0 : w2.cell? ⟨w.heap.size, 0, none⟩ = some (.slice ra rl rc) := (HbW.out.more (Hm1.out.trans Hm2.out)).cell rfl
  have b1 : w2.cell? ⟨w.heap.size, 1, none⟩ = some (.slice ca cl cc) := (HbW.out.more (Hm1.out.trans Hm2.out)).cell rfl
  cases r with
  | false =>
    rcases HD.out with ⟨ok, _⟩ | ⟨_, h1, rfl⟩
    · exact absurd (HR.out.2 ok) (by simp)
    · have hd : d.toList = [] := by rw [h1]; exact ByteArray.toList_mk _
      have HE := hid_of0 (HP.out w2 ((HmW.out.trans Hm1.out).trans Hm2.out))
      clear h1 HP
      go_wp2
      exact HE.out
  | true =>
    rcases HD.out with ⟨ok, h1, rfl⟩ | ⟨no, _⟩
    · have Hd := hid_of0 h1
      have C4 := hid_of0 (C3.out w2 ((HmW.out.trans Hm1.out).trans Hm2.out) ok)
      clear C3 h1 ok
      go_wp2_with (fail)
      refine C4.out.mono ?_
      rintro e w3 ⟨d2, rfl, h2, m3⟩
      have hdd : (d.toList == d2.toList) = true := by rw [Hd.out, h2]; simp
      have hde : d.toList = d2.toList := by rw [Hd.out, h2]
      have HE := hid_of0 (HP.out w3 (((HmW.out.trans Hm1.out).trans Hm2.out).trans m3))
      clear h2 HP m3
      go_wp2
      exact HE.out
    · exact absurd (HR.out.1 rfl) no
theorem readK_b64 {F : List UInt8} {ws : List (List UInt8)} {i : Ins} (hi : B64 i.a ∧ B64 i.b ∧ B64 i.c ∧ B64 i.n) : ∀ {k : Nat} {j : Ins}, ReadK F ws i k j → B64 j.a ∧ B64 j.b ∧ B64 j.c ∧ B64 j.n
  | 0, j, h => by
    have h : j = i := h
    rw [h]
    exact hi
  | k + 1, j, ⟨i', v, f, t, a, b, c, d, e⟩ => by
    have ih := readK_b64 hi a
    have hv := numF_b64 d
    subst e
    unfold setF
    split
    · exact ⟨hv, ih.2⟩
    · split
      · exact ⟨ih.1, hv, ih.2.2⟩
      · split
        · exact ⟨ih.1, ih.2.1, hv, ih.2.2.2⟩
        · exact ⟨ih.1, ih.2.1, ih.2.2.1, hv⟩
theorem readK_op {F : List UInt8} {ws : List (List UInt8)} {i : Ins} : ∀ {k : Nat} {j : Ins}, ReadK F ws i k j → j.op = i.op
  | 0, j, h => by
    have h : j = i := h
    rw [h]
  | k + 1, j, ⟨i', v, f, t, a, b, c, d, e⟩ => by
    have ih := readK_op a
    subst e
    unfold setF
    split
    · exact ih
    · split
      · exact ih
      · split <;> exact ih
theorem lineIs_b64 {ws : List (List UInt8)} {j : Ins} (h : LineIs ws j) : B64 j.op ∧ B64 j.a ∧ B64 j.b ∧ B64 j.c ∧ B64 j.n := by
  obtain ⟨o, c, r, _, _, k⟩ := h
  have h1 := readK_op k
  have h0 : B64 o ∧ B64 c := by unfold Real at r; unfold B64; omega
  have hz : B64 0 := by unfold B64; omega
  refine ⟨by rw [h1]; exact h0.1, readK_b64 ⟨hz, hz, h0.2, hz⟩ k⟩
theorem parsK_b64 {L : List (List UInt8)} : ∀ {k : Nat} {rs : List (Int × Bool)} {cs : List Ins}, ParsK L k rs cs → (∀ r ∈ rs, B64 r.1) ∧ (∀ j ∈ cs, B64 j.op ∧ B64 j.a ∧ B64 j.b ∧ B64 j.c ∧ B64 j.n)
  | 0, _, _, ⟨a, b⟩ => by subst a; subst b; exact ⟨fun _ h => absurd h List.not_mem_nil, fun _ h => absurd h List.not_mem_nil⟩
  | k + 1, _, _, ⟨r, c, l, a, b, d⟩ => by
    have ih := parsK_b64 a
    rcases d with ⟨lg, sc, ⟨t, _, hn⟩, e, rfl, rfl⟩ | ⟨j, hj, rfl, rfl⟩
    · refine ⟨fun x hx => ?_, fun _ h => absurd h List.not_mem_nil⟩
      rcases List.mem_append.1 hx with hx | hx
      · exact ih.1 x hx
      · rw [List.mem_singleton.1 hx]; exact numIs_b64 hn
    · refine ⟨ih.1, fun x hx => ?_⟩
      rcases List.mem_append.1 hx with hx | hx
      · exact ih.2 x hx
      · rw [List.mem_singleton.1 hx]; exact lineIs_b64 hj
theorem reads_fit {s : List UInt8} {rs : List (Int × Bool)} {cs : List Ins} (h : ReadsAs s rs cs) : (prgOf rs cs).Fit := by
  obtain ⟨k, h1, h2, h3, h4⟩ := h
  obtain ⟨b1, b2⟩ := parsK_b64 h2
  have hr := h4.1.1
  have hc := h4.2.2.1
  refine ⟨by unfold maxLen; omega, by unfold maxLen; omega, fun i hi => ?_, fun i hi => ?_⟩
  · have hi' : i < rs.length := hi
    have e : (prgOf rs cs).log i = rs[i].1 := by simp [prgOf, List.getD_eq_getElem?_getD, List.getElem?_eq_getElem hi']
    rw [e]
    exact b1 _ (List.getElem_mem hi')
  · have hi' : i < cs.length := hi
    have e : (prgOf rs cs).ins i = cs[i] := by simp [prgOf, List.getD_eq_getElem?_getD, List.getElem?_eq_getElem hi']
    rw [e]
    exact b2 _ (List.getElem_mem hi')
/-- What was parsed. -/
def Got (s : List UInt8) (q : Prg) (x y : Int) : Prop := (∃ rs cs, ReadsAs s rs cs ∧ q = prgOf rs cs ∧ x = 0 ∧ y = 0) ∨ (∃ k : Nat, FailsAt s k ∧ q = prgOf [] [] ∧ x = 2 ∧ y = k)
theorem got_one {s : List UInt8} {q q' : Prg} {x x' y y' : Int} (h : Got s q x y) (h' : Got s q' x' y') : q = q' ∧ x = x' ∧ y = y' := by
  rcases h with ⟨rs, cs, h, rfl, rfl, rfl⟩ | ⟨k, h, rfl, rfl, rfl⟩ <;> rcases h' with ⟨rs', cs', h', rfl, rfl, rfl⟩ | ⟨k', h', rfl, rfl, rfl⟩
  · obtain ⟨rfl, rfl⟩ := readsAs_one h h'
    exact ⟨rfl, rfl, rfl⟩
  · exact absurd h (fun h => fails_not h' h)
  · exact absurd h' (fun h' => fails_not h h')
  · rw [fails_one h h']
    exact ⟨rfl, rfl, rfl⟩
theorem got_small {s : List UInt8} {q : Prg} {x y : Int} (h : Got s q x y) : q.rl ≤ 8000 ∧ q.cl ≤ 8000 := by
  rcases h with ⟨rs, cs, ⟨_, _, _, _, ok⟩, rfl, _⟩ | ⟨k, _, rfl, _⟩
  · have h1 := ok.1.1
    have h2 := ok.2.2.1
    exact ⟨by omega, h2⟩
  · exact ⟨by show 0 ≤ 8000; omega, by show 0 ≤ 8000; omega⟩
theorem ParsAns.got {s : List UInt8} {w w' : World} {e : Ending} (h : ParsAns s w e w') : ∃ (q : Prg) (ra ca : Option Addr) (rb ro rc cb co cc : Nat) (rl cl : Nat) (x y : Int), e = .returned (.tuple #[.agg #[.slice ra rl rc, .slice ca cl cc], .agg #[.int .i64 x, .int .i64 y]]) ∧ More w w' ∧ Hid (q.rl = rl ∧ q.cl = cl ∧ PIn w' q ⟨ra, rb, ro, rc, ca, cb, co, cc⟩ ∧ Got s q x y) := by
  obtain ⟨m, ⟨rs, cs, l, hr, hp, rfl⟩ | ⟨k, hf, rfl⟩⟩ := h
  · exact ⟨prgOf rs cs, l.ra, l.ca, l.rb, l.ro, l.rc, l.cb, l.co, l.cc, _, _, 0, 0, rfl, m, rfl, rfl, hp, .inl ⟨rs, cs, hr, rfl, rfl, rfl⟩⟩
  · exact ⟨prgOf [] [], none, none, 0, 0, 0, 0, 0, 0, 0, 0, 2, k, rfl, m, rfl, rfl, ⟨fun h => absurd h (Nat.lt_irrefl 0), fun h => absurd h (Nat.lt_irrefl 0), fun i hi => absurd hi (Nat.not_lt_zero i), fun i hi => absurd hi (Nat.not_lt_zero i)⟩, .inr ⟨k, hf, rfl, rfl, rfl⟩⟩
theorem Prg.Eq8.refl (p : Prg) : p.Eq8 p := ⟨rfl, fun _ _ => ⟨rfl, rfl⟩, rfl, fun _ _ => rfl⟩

set_option maxHeartbeats 2000000 in
theorem text_parses_walk (s : List UInt8) (w : World) (HPa : ParseIs w) (hs : s.length ≤ 1099511627776) : Calls Tryd.prog 4 #[.string (txt s)] w fun e w' => e = .returned (.bool true) ∧ More w w' := by
  suffices hP : ∀ P : Ending → World → Prop, (∀ w', More w w' → P (.returned (.bool true)) w') → Calls Tryd.prog 4 #[.string (txt s)] w P from hP _ (fun w' m => ⟨rfl, m⟩)
  intro P hP0
  have HP : Hid (∀ w', More w w' → P (.returned (.bool true)) w') := hP0
  have C1 := hid_of0 (fun w1 m => HPa s w1 m (by omega))
  have C2 := hid_of0 (fun w1 => parse12_calls s w1 hs)
  clear hP0 HPa
  obtain ⟨ss, Hss⟩ : ∃ x, Hid (txt s = x) := ⟨_, rfl⟩
  rw [Hss.out] at C1 C2 ⊢
  go_enter Tryd.func4, Tryd.ntmps4
  go_wp2_with (fail)
  refine (C1.out w (More.refl _)).mono ?_
  intro e w1 h1
  obtain ⟨q, ra, ca, rb, ro, rc, cb, co, cc, rl, cl, x, y, rfl, m1, H1⟩ := h1.got
  have Hm1 : Hid (More w w1) := m1
  clear h1 m1 C1
  obtain ⟨W1, HW1⟩ : ∃ w_ : World, Hid (w_ = (w1.alloc (.cells #[.slice ra rl rc, .slice ca cl cc] 25)).alloc (.cells #[.int .i64 x, .int .i64 y] 32)) := ⟨_, rfl⟩
  have HmW : Hid (More w1 W1) := HW1.out ▸ ((More.refl _).alloc _ _).alloc _ _
  have HbP : Hid (Blk W1 w1.heap.size #[.slice ra rl rc, .slice ca cl cc] 25) := HW1.out ▸ (Blk.last _ _ _).alloc _ _
  have HbF : Hid (Blk W1 (w1.heap.size + 1) #[.int .i64 x, .int .i64 y] 32) := by rw [HW1.out]; show Blk _ _ _ _; simpa using Blk.last (w1.alloc (.cells #[.slice ra rl rc, .slice ca cl cc] 25)) #[.int .i64 x, .int .i64 y] 32
  go_wp2_with (fail)
  rw [← HW1.out]
  refine (C2.out W1).mono ?_
  intro e w2 h2
  obtain ⟨q', ra', ca', rb', ro', rc', cb', co', cc', rl', cl', x', y', rfl, m2, H2⟩ := h2.got
  have Hm2 : Hid (More W1 w2) := m2
  clear h2 m2 C2
  obtain ⟨rfl, rfl, rfl⟩ := got_one H1.out.2.2.2 H2.out.2.2.2
  obtain rfl : rl = rl' := H1.out.1.symm.trans H2.out.1
  obtain rfl : cl = cl' := H1.out.2.1.symm.trans H2.out.2.1
  have C3 : Hid (∀ w3, More w2 w3 → Calls Tryd.prog 12 #[.agg #[.slice ra rl rc, .slice ca cl cc], .agg #[.slice ra' rl rc', .slice ca' cl cc']] w3 fun e w' => e = .returned (.bool true) ∧ More w3 w') := fun w3 m3 => by
    have sm := got_small H1.out.2.2.2
    have := same8_true q q ⟨ra, rb, ro, rc, ca, cb, co, cc⟩ ⟨ra', rb', ro', rc', ca', cb', co', cc'⟩ w3 (H1.out.2.2.1.more ((HmW.out.trans Hm2.out).trans m3)) (H2.out.2.2.1.more m3) (Prg.Eq8.refl q) (by omega) (by omega)
    rw [H1.out.1, H1.out.2.1] at this
    exact this
  have p0 : w2.cell? ⟨w1.heap.size, 0, none⟩ = some (.slice ra rl rc) := (HbP.out.more Hm2.out).cell rfl
  have p1 : w2.cell? ⟨w1.heap.size, 1, none⟩ = some (.slice ca cl cc) := (HbP.out.more Hm2.out).cell rfl
  have f0 : w2.cell? ⟨w1.heap.size + 1, 0, none⟩ = some (.int .i64 x) := (HbF.out.more Hm2.out).cell rfl
  have f1 : w2.cell? ⟨w1.heap.size + 1, 1, none⟩ = some (.int .i64 y) := (HbF.out.more Hm2.out).cell rfl
  have y0 := (HbP.out.more Hm2.out).lt
  have y1 := (HbF.out.more Hm2.out).lt
  obtain ⟨W2, HW2⟩ : ∃ w_ : World, Hid (w_ = (w2.alloc (.cells #[.slice ra' rl rc', .slice ca' cl cc'] 25)).alloc (.cells #[.int .i64 x, .int .i64 y] 32)) := ⟨_, rfl⟩
  have HmV : Hid (More w2 W2) := HW2.out ▸ ((More.refl _).alloc _ _).alloc _ _
  go_wp2_with (fail)
  rw [← HW2.out]
  refine (C3.out W2 HmV.out).mono ?_
  rintro e w3 ⟨rfl, m3⟩
  have HE := hid_of0 (HP.out w3 ((((Hm1.out.trans HmW.out).trans Hm2.out).trans HmV.out).trans m3))
  clear HP C3 m3
  go_wp2
  exact HE.out
/-- A block that is none of the tables. -/
def Far (b : Nat) : Prop := ¬ b = 0 ∧ ¬ b = 2 ∧ ¬ b = 5 ∧ ¬ b = 6
theorem far_of {w : World} (h : LaiE w) {b : Nat} (hb : w.heap.size ≤ b) : Far b := by
  obtain ⟨⟨⟨_, _, h1⟩, ⟨_, _, h2⟩⟩, ⟨_, _, _, _, h3⟩, ⟨_, _, _, _, h4⟩⟩ := h
  have k1 := (Array.getElem?_eq_some_iff.1 h1).1
  have k2 := (Array.getElem?_eq_some_iff.1 h2).1
  have k3 := (Array.getElem?_eq_some_iff.1 h3).1
  have k4 := (Array.getElem?_eq_some_iff.1 h4).1
  unfold Far
  omega
theorem LaiE.grown {w w' : World} {b : Nat} (h : LaiE w) (hb : Far b) (g : w.grownBy w' (some b)) : LaiE w' := by
  obtain ⟨⟨⟨t1, f1, h1⟩, ⟨t2, f2, h2⟩⟩, ⟨t3, p3, x3, y3, h3⟩, ⟨t4, p4, x4, y4, h4⟩⟩ := h
  obtain ⟨b1, b2, b3, b4⟩ := hb
  have key : ∀ k o, w.heap[k]? = some o → ¬ b = k → w'.heap[k]? = some o := fun k o hk hn => (g.block k (Array.getElem?_eq_some_iff.1 hk).1 (by simp; exact fun e => hn e.symm)).trans hk
  exact ⟨⟨⟨t1, f1, key _ _ h1 b1⟩, ⟨t2, f2, key _ _ h2 b2⟩⟩, ⟨t3, p3, x3, y3, key _ _ h3 b3⟩, ⟨t4, p4, x4, y4, key _ _ h4 b4⟩⟩
theorem cutB_len (l : List UInt8) : (cutB l).length ≤ l.length ∧ (cutA l).length ≤ l.length := by
  have := congrArg List.length (cut_app l)
  rw [List.length_append] at this
  omega
theorem encode_byte (c : UInt8) (h : c.toNat < 128) : Utf8.encode (c.toNat : Int) = ⟨#[c]⟩ := by
  unfold Utf8.encode Utf8.valid
  have h1 : ((0 : Int) ≤ c.toNat ∧ (c.toNat : Int) < 55296) := by omega
  simp [h1, h]
theorem trim_one (c d : UInt8) (r : List UInt8) : Lib.trimPrefix (d :: r) [c] = (if d = c then r else d :: r) ∧ Lib.hasPrefix (d :: r) [c] = decide (d = c) := by
  unfold Lib.trimPrefix Lib.hasPrefix
  by_cases e : d = c
  · subst e; simp
  · have : ¬ c = d := fun q => e q.symm
    simp [List.isPrefixOf, e, this]
theorem prefix_calls (l : List UInt8) (c : UInt8) (w : World) : Calls Tryd.prog 81 #[.string (txt l), .string ⟨#[c]⟩] w fun e w' => ∃ (d : ByteArray) (ok : Bool), e = .returned (.tuple #[.string d, .bool ok]) ∧ ((ok = true ∧ ∃ r, l = c :: r ∧ d = txt r) ∨ (ok = false ∧ ∀ r, ¬ l = c :: r)) ∧ w' = w := by
  refine (Any.strings_CutPrefix Tryd.lays103 (txt l) ⟨#[c]⟩ w).mono ?_
  rintro e w' ⟨rfl, rfl⟩
  have e1 : (⟨#[c]⟩ : ByteArray).data.toList = [c] := rfl
  have e2 : (txt l).data.toList = l := rfl
  rw [e1, e2]
  refine ⟨_, _, rfl, ?_, rfl⟩
  cases l with
  | nil => exact .inr ⟨rfl, fun r h => by cases h⟩
  | cons d r =>
    rw [(trim_one c d r).1, (trim_one c d r).2]
    by_cases q : d = c
    · subst q
      left
      exact ⟨by simp, r, rfl, by rw [if_pos rfl]⟩
    · right
      exact ⟨by simp [q], fun r' h => q (List.cons.inj h).1⟩

set_option maxHeartbeats 4000000 in
theorem matches_calls {σ : Type} (st : σ → UInt8 → Int → σ) (cells : σ → Array Value) (T b : Nat) (F : List UInt8) (hF : ∀ c ∈ F, c.toNat < 128) (l : List UInt8) (hl : l.length < 4611686018427387904) (fn : Nat) (cp : Value) (s : σ) (w : World) (hI : Blk w b (cells s) T) (hw : LaiE w) (hfar : Far b)
    (hent : ∀ args w, (callFunc fn args).run Tryd.prog w = .ok (.enter fn args) w)
    (hfn : ∀ s c t w1, c ∈ F → capB c = true → t.length < 4611686018427387904 → LaiE w1 → Blk w1 b (cells s) T → Calls Tryd.prog fn #[.int .i32 c.toNat, .string (txt t), cp] w1 fun e w' => ∃ v ok, e = .returned (.bool ok) ∧ NumAns (mx c) t v ok ∧ Blk w' b (cells (st s c v)) T ∧ w1.grownBy w' (some b)) :
    Calls Tryd.prog 64 #[.string (txt F), .string (txt l), .func (.func fn) #[] #[cp]] w fun e w' => ∃ s' ok, e = .returned (.bool ok) ∧ ((ok = true ∧ FitG st F l s s') ∨ (ok = false ∧ ∀ s'', ¬ FitG st F l s s'')) ∧ Blk w' b (cells s') T ∧ w.grownBy w' (some b) := by
  suffices hP : ∀ P : Ending → World → Prop, (∀ s' ok w', ((ok = true ∧ FitG st F l s s') ∨ (ok = false ∧ ∀ s'', ¬ FitG st F l s s'')) → Blk w' b (cells s') T → w.grownBy w' (some b) → P (.returned (.bool ok)) w') → Calls Tryd.prog 64 #[.string (txt F), .string (txt l), .func (.func fn) #[] #[cp]] w P from hP _ (fun s' ok w' h1 h2 h3 => ⟨s', ok, rfl, h1, h2, h3⟩)
  intro P hP0
  have HP : Hid (∀ s' ok w', ((ok = true ∧ FitG st F l s s') ∨ (ok = false ∧ ∀ s'', ¬ FitG st F l s s'')) → Blk w' b (cells s') T → w.grownBy w' (some b) → P (.returned (.bool ok)) w') := hP0
  have HF : Hid (∀ c ∈ F, c.toNat < 128) := hF
  have Hfn : Hid (∀ s c t w1, c ∈ F → capB c = true → t.length < 4611686018427387904 → LaiE w1 → Blk w1 b (cells s) T → Calls Tryd.prog fn #[.int .i32 c.toNat, .string (txt t), cp] w1 fun e w' => ∃ v ok, e = .returned (.bool ok) ∧ NumAns (mx c) t v ok ∧ Blk w' b (cells (st s c v)) T ∧ w1.grownBy w' (some b)) := hfn
  have HL : Hid (∀ w', w.grownBy w' (some b) → LaiE w') := fun w' g => hw.grown hfar g
  have HI : Hid (Blk w b (cells s) T) := hI
  have Hll : Hid (l.length < 4611686018427387904) := hl
  have Hsz : Hid ((txt F).size = F.length) := txt_size F
  have Hdec : Hid (∀ k c, F[k]? = some c → Utf8.decode (txt F) k = (c.toNat, 1)) := fun k c h => txt_decode h (HF.out c (List.mem_of_getElem? h)) (by rw [Hsz.out]; exact (List.getElem?_eq_some_iff.1 h).1)
  clear hP0 hF hfn hw hfar hI hl
  obtain ⟨ss, Hss⟩ : ∃ x, Hid (txt F = x) := ⟨_, rfl⟩
  rw [Hss.out] at Hsz Hdec ⊢
  obtain ⟨l0, Hl0⟩ : ∃ x, Hid (txt l = x) := ⟨_, rfl⟩
  rw [Hl0.out]
  go_enter Tryd.func64, Tryd.ntmps64
  go_wp2
  go_loopw [1] (fun rv wr => ∃ (pos : Nat) (rest : List UInt8) (sx : σ), rv = .string (txt rest) ∧ Hid (pos ≤ F.length ∧ rest.length < 4611686018427387904 ∧ (∀ s'', FitG st F l s s'' ↔ FitG st (F.drop pos) rest sx s'') ∧ Blk wr b (cells sx) T ∧ wr.heap[w.heap.size]? = some (.stringIter ss pos) ∧ w.grownBy wr (some b))) (fun _ wr => ss.size - wr.iterPos w.heap.size)
  case atStart =>
    refine ⟨0, l, s, by rw [Hl0.out], Nat.zero_le _, Hll.out, fun s'' => Iff.rfl, ?_, World.iter_heap w ss 0, ?_⟩
    · exact (Lib.alloc_old w _ b HI.out.lt).trans HI.out
    · exact World.grownBy_alloc w _ _
  case round =>
    obtain ⟨pos, rest, sx, rfl, Hr⟩ := hrel
    have hlt : w.heap.size < wr.heap.size := (Array.getElem?_eq_some_iff.1 Hr.out.2.2.2.2.1).1
    have hbn : b ≠ w.heap.size := by have := HI.out.lt; omega
    have hrl : (txt rest).toList = rest := ByteArray.toList_mk _
    by_cases hp : pos < F.length
    · obtain ⟨c, hc⟩ : ∃ c, F[pos]? = some c := ⟨F[pos], List.getElem?_eq_getElem hp⟩
      have Hc : Hid (c ∈ F ∧ c.toNat < 128) := ⟨List.mem_of_getElem? hc, HF.out c (List.mem_of_getElem? hc)⟩
      have Hdrop : Hid (F.drop pos = c :: F.drop (pos + 1)) := by
        show _ = _
        rw [List.drop_eq_getElem_cons hp]
        congr 1
        rw [List.getElem?_eq_getElem hp] at hc
        exact Option.some.inj hc
      have hnx : ∀ ty, (Instr.next (.pointer (some ⟨w.heap.size, 0, none⟩)) true ty).run Tryd.prog wr = .ok (.tuple #[.bool true, .int .i64 pos, .int .i32 c.toNat]) (wr.iterAt w.heap.size ss (pos + 1)) := fun ty => by
        rw [Lib.run_next_any_at wr w.heap.size ss pos ty Hr.out.2.2.2.2.1 (by rw [Hsz.out]; exact hp), Hdec.out pos c hc]
      obtain ⟨W, HW⟩ : ∃ w_ : World, Hid (w_ = wr.iterAt w.heap.size ss (pos + 1)) := ⟨_, rfl⟩
      have Hit : Hid (W.heap[w.heap.size]? = some (.stringIter ss (pos + 1))) := HW.out ▸ Lib.iterAt_heap wr w.heap.size ss pos (pos + 1) Hr.out.2.2.2.2.1
      have HbW : Hid (Blk W b (cells sx) T) := HW.out ▸ (Lib.iterAt_other wr w.heap.size b ss (pos + 1) hbn).trans Hr.out.2.2.2.1
      have HgW : Hid (w.grownBy W (some b)) := by
        have g := Hr.out.2.2.2.2.2
        rw [HW.out]
        exact ⟨g.os, g.tape, g.output, by rw [Lib.iterAt_size]; exact g.size, fun k hk hn => (Lib.iterAt_other wr w.heap.size k ss (pos + 1) (by omega)).trans (g.block k hk hn)⟩
      have HLW : Hid (LaiE W) := HL.out W HgW.out
      have Hip : Hid (wr.iterPos w.heap.size = pos) := by show _ = _; simp [World.iterPos, Hr.out.2.2.2.2.1]
      have Hrl : Hid (rest.length < 4611686018427387904) := Hr.out.2.1
      have Hfit : Hid (∀ s'', FitG st F l s s'' ↔ FitG st (c :: F.drop (pos + 1)) rest sx s'') := fun s'' => by
        have := Hr.out.2.2.1 s''
        rw [Hdrop.out] at this
        exact this
      have Hend : Hid (∀ (r' : List UInt8) (sy : σ) w1, r'.length < 4611686018427387904 → (∀ s'', FitG st F l s s'' ↔ FitG st (F.drop (pos + 1)) r' sy s'') → Blk w1 b (cells sy) T → w1.heap[w.heap.size]? = some (.stringIter ss (pos + 1)) → w.grownBy w1 (some b) → (∃ (p : Nat) (rest : List UInt8) (sx : σ), Value.string (txt r') = .string (txt rest) ∧ Hid (p ≤ F.length ∧ rest.length < 4611686018427387904 ∧ (∀ s'', FitG st F l s s'' ↔ FitG st (F.drop p) rest sx s'') ∧ Blk w1 b (cells sx) T ∧ w1.heap[w.heap.size]? = some (.stringIter ss p) ∧ w.grownBy w1 (some b))) ∧ ss.size - w1.iterPos w.heap.size < ss.size - wr.iterPos w.heap.size) := fun r' sy w1 a1 a2 a3 a4 a5 => by
        refine ⟨⟨pos + 1, r', sy, rfl, hp, a1, a2, a3, a4, a5⟩, ?_⟩
        have : w1.iterPos w.heap.size = pos + 1 := by simp [World.iterPos, a4]
        rw [this, Hip.out, Hsz.out]
        omega
      have Hbad : Hid (∀ (sy : σ) w1, (∀ s'', ¬ FitG st F l s s'') → Blk w1 b (cells sy) T → w.grownBy w1 (some b) → P (.returned (.bool false)) w1) := fun sy w1 a1 a2 a3 => HP.out sy false w1 (.inr ⟨rfl, a1⟩) a2 a3
      rw [← HW.out] at hnx
      have CC : Hid (Calls Tryd.prog 44 #[.int .i32 c.toNat] W fun e w' => e = .returned (.bool (capB c)) ∧ w' = W) := capital_calls c W
      have CW : Hid (Calls Tryd.prog 37 #[.string (txt rest)] W fun e w' => e = .returned (.tuple #[.string (txt (cutA rest)), .string (txt (cutB rest))]) ∧ More W w') := cutWord_calls rest Hrl.out W
      have CX : Hid (Calls Tryd.prog 81 #[.string (txt rest), .string ⟨#[c]⟩] W fun e w' => ∃ (d : ByteArray) (ok : Bool), e = .returned (.tuple #[.string d, .bool ok]) ∧ ((ok = true ∧ ∃ r, rest = c :: r ∧ d = txt r) ∨ (ok = false ∧ ∀ r, ¬ rest = c :: r)) ∧ w' = W) := prefix_calls rest c W
      have henc : Utf8.encode (c.toNat : Int) = ⟨#[c]⟩ := encode_byte c Hc.out.2
      have Ht : Hid (capB c = true → ∀ w1, LaiE w1 → Blk w1 b (cells sx) T → Calls Tryd.prog fn #[.int .i32 c.toNat, .string (txt (cutA rest)), cp] w1 fun e w' => ∃ v ok, e = .returned (.bool ok) ∧ NumAns (mx c) (cutA rest) v ok ∧ Blk w' b (cells (st sx c v)) T ∧ w1.grownBy w' (some b))   := fun hq w1 h1 h2 => Hfn.out sx c _ w1 Hc.out.1 hq (by have := (cutB_len rest).2; have := Hrl.out; omega) h1 h2
      have hcv : capB c = true ∨ ¬ capB c = true := by cases capB c <;> simp
      obtain ⟨cn, Hcn⟩ : ∃ x : Nat, Hid (c.toNat = x) := ⟨_, rfl⟩
      rw [Hcn.out] at hnx CC henc Ht
      obtain ⟨tr, Htr⟩ : ∃ x, Hid (txt rest = x) := ⟨_, rfl⟩
      obtain ⟨ta, Hta⟩ : ∃ x, Hid (txt (cutA rest) = x) := ⟨_, rfl⟩
      obtain ⟨tb, Htb⟩ : ∃ x, Hid (txt (cutB rest) = x) := ⟨_, rfl⟩
      rw [Htr.out] at CW CX ⊢
      rw [Hta.out] at CW Ht
      rw [Htb.out] at CW
      clear hrl hc Hr HP Hfn HF Hdec Hdrop
      go_wp2_with (fail)
      refine CC.out.mono ?_
      rintro e w' ⟨rfl, rfl⟩
      clear CC hnx
      rcases hcv with hcv | hcv
      · have Hn : Hid (∀ s'', FitG st F l s s'' ↔ ∃ v, NumIs (mx c) (cutA rest) v ∧ FitG st (F.drop (pos + 1)) (cutB rest) (st sx c v) s'') := fun s'' => (Hfit.out s'').trans (fitG_cap st hcv)
        have Ht2 := hid_tb (Ht.out hcv)
        rw [hcv]
        clear CX henc Hfit hcv Ht
        go_wp2_with (fail)
        refine CW.out.mono ?_
        rintro e w1 ⟨rfl, m1⟩
        have Hm1 : Hid (More w' w1) := m1
        have CT := hid_tb (Ht2.out w1 (HLW.out.more m1) (HbW.out.more m1))
        clear m1 CW Ht2
        go_wp2_with (go_at_fn fn; refine CT.out.mono ?_; rintro e w2 ⟨v, ok, rfl, hn, hb2, g2⟩; refine Hid.out ?_)
        refine Lib.hid ?_
        have Hg2 : Hid (w.grownBy w2 (some b)) := grown_trans (grown_trans HgW.out (Hm1.out.grow _)) g2
        have Hit2 : Hid (w2.heap[w.heap.size]? = some (.stringIter ss (pos + 1))) := by
          have h1 := heap_more Hm1.out Hit.out
          exact (g2.block _ (Array.getElem?_eq_some_iff.1 h1).1 (by simp; omega)).trans h1
        clear g2 CT
        cases ok with
        | true =>
          have hv : NumIs (mx c) (cutA rest) v := by
            rcases hn with ⟨_, h⟩ | ⟨h, _⟩
            · exact h
            · cases h
          have HE := hid_tb (Hend.out (cutB rest) (st sx c v) w2 (by have := (cutB_len rest).1; have := Hrl.out; omega) (fun s'' => by
            rw [Hn.out]
            constructor
            · rintro ⟨v', n', k⟩
              rw [numIs_one hv n']
              exact k
            · intro k
              exact ⟨v, hv, k⟩) hb2 Hit2.out Hg2.out)
          rw [Htb.out] at HE
          clear hn hb2 Hend Hbad hv
          go_wp2
          go_roundw
          case rel => exact HE.out.1
          case measure => exact HE.out.2
        | false =>
          have HE := hid_tb (Hbad.out (st sx c v) w2 (fun s'' k => by
            obtain ⟨v', n', _⟩ := (Hn.out s'').1 k
            rcases hn with ⟨h, _⟩ | ⟨_, h⟩
            · cases h
            · exact h v' n') hb2 Hg2.out)
          clear hn hb2 Hend Hbad
          go_wp2
          exact HE.out
      · have Hn : Hid (∀ s'', FitG st F l s s'' ↔ ∃ r, rest = c :: r ∧ FitG st (F.drop (pos + 1)) r sx s'') := fun s'' => (Hfit.out s'').trans (fitG_not st hcv)
        have hcf : capB c = false := by simpa using hcv
        rw [hcf]
        clear CW Ht Hfit hcv hcf
        go_wp2_with (fail)
        refine CX.out.mono ?_
        rintro e w1 ⟨d, ok, rfl, hd, hw1⟩
        have hw1' := hw1.symm
        subst hw1'
        clear CX
        cases ok with
        | true =>
          obtain ⟨r, hr, hdr⟩ : ∃ r, rest = c :: r ∧ d = txt r := by
            rcases hd with ⟨_, h⟩ | ⟨h, _⟩
            · exact h
            · cases h
          have HE := hid_tb (Hend.out r sx w' (by have h1 := Hrl.out; rw [hr] at h1; simp at h1; omega) (fun s'' => by
            rw [Hn.out]
            constructor
            · rintro ⟨r', e', k⟩
              rw [hr] at e'
              rw [(List.cons.inj e').2]
              exact k
            · intro k
              exact ⟨r, hr, k⟩) HbW.out Hit.out HgW.out)
          rw [← hdr] at HE
          clear hd Hend Hbad hr hdr
          go_wp2
          go_roundw
          case rel => exact HE.out.1
          case measure => exact HE.out.2
        | false =>
          have HE := hid_tb (Hbad.out sx w' (fun s'' k => by
            obtain ⟨r', e', _⟩ := (Hn.out s'').1 k
            rcases hd with ⟨h, _⟩ | ⟨_, h⟩
            · cases h
            · exact h r' e') HbW.out HgW.out)
          clear hd Hend Hbad
          go_wp2
          exact HE.out
    · have hnx : ∀ ty, (Instr.next (.pointer (some ⟨w.heap.size, 0, none⟩)) true ty).run Tryd.prog wr = .ok (.tuple #[.bool false]) wr := fun ty => Lib.run_next_end_at wr w.heap.size ss pos ty Hr.out.2.2.2.2.1 (by rw [Hsz.out]; exact hp)
      have e0 : F.drop pos = [] := List.drop_eq_nil_of_le (by omega)
      have Hfit : Hid (∀ s'', FitG st F l s s'' ↔ (rest = [] ∧ s'' = sx)) := fun s'' => by
        have := Hr.out.2.2.1 s''
        rw [e0] at this
        exact this
      have Hbk : Hid (Blk wr b (cells sx) T ∧ w.grownBy wr (some b)) := ⟨Hr.out.2.2.2.1, Hr.out.2.2.2.2.2⟩
      by_cases hr0 : rest = []
      · have q1 : (txt rest).toList = [] := by rw [hrl, hr0]
        have HE := hid_tb (HP.out sx true wr (.inl ⟨rfl, (Hfit.out sx).2 ⟨hr0, rfl⟩⟩) Hbk.out.1 Hbk.out.2)
        obtain ⟨tr, Htr⟩ : ∃ x, Hid (txt rest = x) := ⟨_, rfl⟩
        rw [Htr.out] at q1 ⊢
        clear HP Hfn Hr hr0 hrl hp e0 HF HL
        go_wp2
        exact HE.out
      · have q1 : ¬ (txt rest).toList = [] := by rw [hrl]; exact hr0
        have q2 : (txt rest).toList.isEmpty = false := by rw [hrl]; simpa using hr0
        have HE := hid_tb (HP.out sx false wr (.inr ⟨rfl, fun s'' h => hr0 ((Hfit.out s'').1 h).1⟩) Hbk.out.1 Hbk.out.2)
        obtain ⟨tr, Htr⟩ : ∃ x, Hid (txt rest = x) := ⟨_, rfl⟩
        rw [Htr.out] at q1 q2 ⊢
        clear HP Hfn Hr hr0 hrl hp e0 HF HL
        go_wp2
        exact HE.out
theorem num_short {t : List UInt8} {v : Int} {ok : Bool} (h : NumAns 19 t v ok) : NumAns 18 t v (ok && decide (-1000000000000000000 < v ∧ v < 1000000000000000000)) := by
  rcases h with ⟨rfl, n⟩ | ⟨rfl, n⟩
  · by_cases q : -1000000000000000000 < v ∧ v < 1000000000000000000
    · exact .inl ⟨by rw [decide_eq_true q]; rfl, (numIs_short n).2 q⟩
    · refine .inr ⟨by rw [decide_eq_false q]; rfl, fun v' k => q ?_⟩
      obtain rfl := numIs_one n (numIs_up k)
      exact (numIs_short n).1 k
  · exact .inr ⟨rfl, fun v' k => n v' (numIs_up k)⟩

set_option maxHeartbeats 1000000 in
theorem takeR_calls (lg : Int) (sec : Bool) (b : Nat) (c : UInt8) (t : List UInt8) (w : World) (ht : t.length < 4611686018427387904) (hL : LaiE w) (h : Blk w b #[.int .i64 lg, .bool sec] 42) :
    Calls Tryd.prog 61 #[.int .i32 c.toNat, .string (txt t), .pointer (some ⟨b, 0, none⟩)] w fun e w' => ∃ v ok, e = .returned (.bool ok) ∧ NumAns 18 t v ok ∧ Blk w' b #[.int .i64 v, .bool sec] 42 ∧ w.grownBy w' (some b) := by
  suffices hP : ∀ P : Ending → World → Prop, (∀ v ok w', NumAns 18 t v ok → Blk w' b #[.int .i64 v, .bool sec] 42 → w.grownBy w' (some b) → P (.returned (.bool ok)) w') → Calls Tryd.prog 61 #[.int .i32 c.toNat, .string (txt t), .pointer (some ⟨b, 0, none⟩)] w P from hP _ (fun v ok w' h1 h2 h3 => ⟨v, ok, rfl, h1, h2, h3⟩)
  intro P hP0
  have HP : Hid (∀ v ok w', NumAns 18 t v ok → Blk w' b #[.int .i64 v, .bool sec] 42 → w.grownBy w' (some b) → P (.returned (.bool ok)) w') := hP0
  have HB : Hid (Blk w b #[.int .i64 lg, .bool sec] 42) := h
  have CN := hid_tb (tnumber_calls t ht w hL)
  clear hP0 h hL
  obtain ⟨tt, Htt⟩ : ∃ x, Hid (txt t = x) := ⟨_, rfl⟩
  rw [Htt.out] at CN ⊢
  obtain ⟨cn, Hcn⟩ : ∃ x : Nat, Hid (c.toNat = x) := ⟨_, rfl⟩
  rw [Hcn.out]
  go_enter Tryd.func61, Tryd.ntmps61
  go_wp2_with (fail)
  refine CN.out.mono ?_
  rintro e w1 ⟨v, ok, rfl, hn, m1⟩
  have Hb1 : Hid (Blk w1 b #[.int .i64 lg, .bool sec] 42) := HB.out.more m1
  have c0 : w1.cell? ⟨b, 0, none⟩ = some (.int .i64 lg) := Hb1.out.cell rfl
  have z0 := Hb1.out.frozen 0
  obtain ⟨W, HW⟩ : ∃ w_ : World, Hid (w_ = w1.setCell ⟨b, 0, none⟩ (.int .i64 v)) := ⟨_, rfl⟩
  have HbW : Hid (Blk W b #[.int .i64 v, .bool sec] 42) := by rw [HW.out]; show Blk _ _ _ _; simpa using Hb1.out.put 0 (.int .i64 v)
  have HgW : Hid (w.grownBy W (some b)) := grown_trans (m1.grow _) (HW.out ▸ grown_set _ _ _ _)
  have Hn := hid_tb (num_short hn)
  clear hn m1 CN
  have CS := hid_tb (short_calls v W)
  cases ok with
  | false =>
    have HE := hid_tb (HP.out v false W (by simpa using Hn.out) HbW.out HgW.out)
    rw [HW.out] at HE
    clear HP CS
    go_wp2
    exact HE.out
  | true =>
    have HE := hid_tb (HP.out v _ W Hn.out HbW.out HgW.out)
    obtain ⟨sh, Hsh⟩ : ∃ x, Hid (decide (-1000000000000000000 < v ∧ v < 1000000000000000000) = x) := ⟨_, rfl⟩
    rw [Hsh.out] at CS HE
    rw [Bool.true_and] at HE
    clear HP Hn
    go_wp2_with (fail)
    rw [← HW.out]
    refine CS.out.mono ?_
    rintro e w2 ⟨rfl, rfl⟩
    clear CS
    go_wp2
    exact HE.out

def insV (i : Ins) : Array Value := #[.int .i64 i.op, .int .i64 i.a, .int .i64 i.b, .int .i64 i.c, .int .i64 i.n]
set_option maxHeartbeats 2000000 in
theorem takeI_calls (i : Ins) (b : Nat) (c : UInt8) (hc : c = 65 ∨ c = 66 ∨ c = 67 ∨ c = 78) (t : List UInt8) (w : World) (ht : t.length < 4611686018427387904) (hL : LaiE w) (h : Blk w b (insV i) 49) :
    Calls Tryd.prog 82 #[.int .i32 c.toNat, .string (txt t), .pointer (some ⟨b, 0, none⟩)] w fun e w' => ∃ v ok, e = .returned (.bool ok) ∧ NumAns (mx c) t v ok ∧ Blk w' b (insV (setC i c v)) 49 ∧ w.grownBy w' (some b) := by
  suffices hP : ∀ P : Ending → World → Prop, (∀ v ok w', NumAns (mx c) t v ok → Blk w' b (insV (setC i c v)) 49 → w.grownBy w' (some b) → P (.returned (.bool ok)) w') → Calls Tryd.prog 82 #[.int .i32 c.toNat, .string (txt t), .pointer (some ⟨b, 0, none⟩)] w P from hP _ (fun v ok w' h1 h2 h3 => ⟨v, ok, rfl, h1, h2, h3⟩)
  intro P hP0
  have HP : Hid (∀ v ok w', NumAns (mx c) t v ok → Blk w' b (insV (setC i c v)) 49 → w.grownBy w' (some b) → P (.returned (.bool ok)) w') := hP0
  obtain ⟨op, a0, b0, c0, n0⟩ := i
  have HB : Hid (Blk w b #[.int .i64 op, .int .i64 a0, .int .i64 b0, .int .i64 c0, .int .i64 n0] 49) := h
  have CN := hid_tb (tnumber_calls t ht w hL)
  clear hP0 h hL
  obtain ⟨tt, Htt⟩ : ∃ x, Hid (txt t = x) := ⟨_, rfl⟩
  rw [Htt.out] at CN ⊢
  rcases hc with rfl | rfl | rfl | rfl
  · go_enter Tryd.func82, Tryd.ntmps82
    go_wp2_with (fail)
    refine CN.out.mono ?_
    rintro e w1 ⟨v, ok, rfl, hn, m1⟩
    have Hb1 : Hid (Blk w1 b #[.int .i64 op, .int .i64 a0, .int .i64 b0, .int .i64 c0, .int .i64 n0] 49) := HB.out.more m1
    have c1 : w1.cell? ⟨b, 1, none⟩ = some (.int .i64 a0) := Hb1.out.cell rfl
    have zz := Hb1.out.frozen 1
    obtain ⟨W, HW⟩ : ∃ w_ : World, Hid (w_ = w1.setCell ⟨b, 1, none⟩ (.int .i64 v)) := ⟨_, rfl⟩
    have HbW : Hid (Blk W b #[.int .i64 op, .int .i64 v, .int .i64 b0, .int .i64 c0, .int .i64 n0] 49) := by rw [HW.out]; show Blk _ _ _ _; simpa using Hb1.out.put 1 (.int .i64 v)
    have HgW : Hid (w.grownBy W (some b)) := grown_trans (m1.grow _) (HW.out ▸ grown_set _ _ _ _)
    have Hn := hid_tb (num_short hn)
    clear hn m1 CN
    have CS := hid_tb (short_calls v W)
    cases ok with
    | false =>
      have HE := hid_tb (HP.out v false W (show NumAns 18 t v false by simpa using Hn.out) HbW.out HgW.out)
      rw [HW.out] at HE
      clear HP CS
      go_wp2
      exact HE.out
    | true =>
      have HE := hid_tb (HP.out v _ W Hn.out HbW.out HgW.out)
      obtain ⟨sh, Hsh⟩ : ∃ x, Hid (decide (-1000000000000000000 < v ∧ v < 1000000000000000000) = x) := ⟨_, rfl⟩
      rw [Hsh.out] at CS HE
      rw [Bool.true_and] at HE
      clear HP Hn
      go_wp2_with (fail)
      rw [← HW.out]
      refine CS.out.mono ?_
      rintro e w2 ⟨rfl, rfl⟩
      clear CS
      go_wp2
      exact HE.out
  · go_enter Tryd.func82, Tryd.ntmps82
    go_wp2_with (fail)
    refine CN.out.mono ?_
    rintro e w1 ⟨v, ok, rfl, hn, m1⟩
    have Hb1 : Hid (Blk w1 b #[.int .i64 op, .int .i64 a0, .int .i64 b0, .int .i64 c0, .int .i64 n0] 49) := HB.out.more m1
    have c1 : w1.cell? ⟨b, 2, none⟩ = some (.int .i64 b0) := Hb1.out.cell rfl
    have zz := Hb1.out.frozen 2
    obtain ⟨W, HW⟩ : ∃ w_ : World, Hid (w_ = w1.setCell ⟨b, 2, none⟩ (.int .i64 v)) := ⟨_, rfl⟩
    have HbW : Hid (Blk W b #[.int .i64 op, .int .i64 a0, .int .i64 v, .int .i64 c0, .int .i64 n0] 49) := by rw [HW.out]; show Blk _ _ _ _; simpa using Hb1.out.put 2 (.int .i64 v)
    have HgW : Hid (w.grownBy W (some b)) := grown_trans (m1.grow _) (HW.out ▸ grown_set _ _ _ _)
    have Hn := hid_tb (num_short hn)
    clear hn m1 CN
    have CS := hid_tb (short_calls v W)
    cases ok with
    | false =>
      have HE := hid_tb (HP.out v false W (show NumAns 18 t v false by simpa using Hn.out) HbW.out HgW.out)
      rw [HW.out] at HE
      clear HP CS
      go_wp2
      exact HE.out
    | true =>
      have HE := hid_tb (HP.out v _ W Hn.out HbW.out HgW.out)
      obtain ⟨sh, Hsh⟩ : ∃ x, Hid (decide (-1000000000000000000 < v ∧ v < 1000000000000000000) = x) := ⟨_, rfl⟩
      rw [Hsh.out] at CS HE
      rw [Bool.true_and] at HE
      clear HP Hn
      go_wp2_with (fail)
      rw [← HW.out]
      refine CS.out.mono ?_
      rintro e w2 ⟨rfl, rfl⟩
      clear CS
      go_wp2
      exact HE.out
  · go_enter Tryd.func82, Tryd.ntmps82
    go_wp2_with (fail)
    refine CN.out.mono ?_
    rintro e w1 ⟨v, ok, rfl, hn, m1⟩
    have Hb1 : Hid (Blk w1 b #[.int .i64 op, .int .i64 a0, .int .i64 b0, .int .i64 c0, .int .i64 n0] 49) := HB.out.more m1
    have c1 : w1.cell? ⟨b, 3, none⟩ = some (.int .i64 c0) := Hb1.out.cell rfl
    have zz := Hb1.out.frozen 3
    obtain ⟨W, HW⟩ : ∃ w_ : World, Hid (w_ = w1.setCell ⟨b, 3, none⟩ (.int .i64 v)) := ⟨_, rfl⟩
    have HbW : Hid (Blk W b #[.int .i64 op, .int .i64 a0, .int .i64 b0, .int .i64 v, .int .i64 n0] 49) := by rw [HW.out]; show Blk _ _ _ _; simpa using Hb1.out.put 3 (.int .i64 v)
    have HgW : Hid (w.grownBy W (some b)) := grown_trans (m1.grow _) (HW.out ▸ grown_set _ _ _ _)
    have Hn := hid_tb (num_short hn)
    clear hn m1 CN
    have CS := hid_tb (short_calls v W)
    cases ok with
    | false =>
      have HE := hid_tb (HP.out v false W (show NumAns 18 t v false by simpa using Hn.out) HbW.out HgW.out)
      rw [HW.out] at HE
      clear HP CS
      go_wp2
      exact HE.out
    | true =>
      have HE := hid_tb (HP.out v _ W Hn.out HbW.out HgW.out)
      obtain ⟨sh, Hsh⟩ : ∃ x, Hid (decide (-1000000000000000000 < v ∧ v < 1000000000000000000) = x) := ⟨_, rfl⟩
      rw [Hsh.out] at CS HE
      rw [Bool.true_and] at HE
      clear HP Hn
      go_wp2_with (fail)
      rw [← HW.out]
      refine CS.out.mono ?_
      rintro e w2 ⟨rfl, rfl⟩
      clear CS
      go_wp2
      exact HE.out
  · go_enter Tryd.func82, Tryd.ntmps82
    go_wp2_with (fail)
    refine CN.out.mono ?_
    rintro e w1 ⟨v, ok, rfl, hn, m1⟩
    have Hb1 : Hid (Blk w1 b #[.int .i64 op, .int .i64 a0, .int .i64 b0, .int .i64 c0, .int .i64 n0] 49) := HB.out.more m1
    have c1 : w1.cell? ⟨b, 4, none⟩ = some (.int .i64 n0) := Hb1.out.cell rfl
    have zz := Hb1.out.frozen 4
    obtain ⟨W, HW⟩ : ∃ w_ : World, Hid (w_ = w1.setCell ⟨b, 4, none⟩ (.int .i64 v)) := ⟨_, rfl⟩
    have HbW : Hid (Blk W b #[.int .i64 op, .int .i64 a0, .int .i64 b0, .int .i64 c0, .int .i64 v] 49) := by rw [HW.out]; show Blk _ _ _ _; simpa using Hb1.out.put 4 (.int .i64 v)
    have HgW : Hid (w.grownBy W (some b)) := grown_trans (m1.grow _) (HW.out ▸ grown_set _ _ _ _)
    have HE := hid_tb (HP.out v ok W hn HbW.out HgW.out)
    rw [HW.out] at HE
    clear hn m1 CN HP
    go_wp2
    exact HE.out
theorem ent_takeR : ∀ args w, (callFunc 61 args).run Tryd.prog w = .ok (.enter 61 args) w := enters_of Tryd.func61 (by kernel_rfl) rfl
theorem ent_takeI : ∀ args w, (callFunc 82 args).run Tryd.prog w = .ok (.enter 82 args) w := enters_of Tryd.func82 (by kernel_rfl) rfl
theorem regF_caps (sec : Bool) : ∀ c ∈ regF sec, mx c = 18 := by cases sec <;> decide

theorem matchR_calls (sc sec : Bool) (lg : Int) (b : Nat) (l : List UInt8) (hl : l.length < 4611686018427387904) (w : World) (hI : Blk w b #[.int .i64 lg, .bool sec] 42) (hw : LaiE w) (hfar : Far b) :
    Calls Tryd.prog 64 #[.string (txt (regF sc)), .string (txt l), .func (.func 61) #[] #[.pointer (some ⟨b, 0, none⟩)]] w fun e w' => ∃ (lg' : Int) (ok : Bool), e = .returned (.bool ok) ∧ ((ok = true ∧ FitG (fun _ _ v => v) (regF sc) l lg lg') ∨ (ok = false ∧ ∀ lg'', ¬ FitG (fun _ _ v => v) (regF sc) l lg lg'')) ∧ Blk w' b #[.int .i64 lg', .bool sec] 42 ∧ w.grownBy w' (some b) :=
  matches_calls (σ := Int) (fun _ _ v => v) (fun s => #[.int .i64 s, .bool sec]) 42 b (regF sc) (regF_fields sc).1 l hl 61 (.pointer (some ⟨b, 0, none⟩)) lg w hI hw hfar ent_takeR
    (fun s c t w1 hc _ ht h1 h2 => by rw [regF_caps sc c hc]; exact takeR_calls s sec b c t w1 ht h1 h2)
theorem matchI_calls (x : Kd) (hx : x ∈ kindsT) (i : Ins) (b : Nat) (l : List UInt8) (hl : l.length < 4611686018427387904) (w : World) (hI : Blk w b (insV i) 49) (hw : LaiE w) (hfar : Far b) :
    Calls Tryd.prog 64 #[.string (txt x.2.2.2), .string (txt l), .func (.func 82) #[] #[.pointer (some ⟨b, 0, none⟩)]] w fun e w' => ∃ (j : Ins) (ok : Bool), e = .returned (.bool ok) ∧ ((ok = true ∧ FitG setC x.2.2.2 l i j) ∨ (ok = false ∧ ∀ j', ¬ FitG setC x.2.2.2 l i j')) ∧ Blk w' b (insV j) 49 ∧ w.grownBy w' (some b) :=
  matches_calls (σ := Ins) setC insV 49 b x.2.2.2 (fun c hc => ((kind_fields hx).1 c hc).1) l hl 82 (.pointer (some ⟨b, 0, none⟩)) i w hI hw hfar ent_takeI
    (fun s c t w1 hc hq ht h1 h2 => takeI_calls s b c (((kind_fields hx).1 c hc).2 hq) t w1 ht h1 h2)

set_option maxHeartbeats 2000000 in
theorem kread_calls (x : Kd) (hx : x ∈ kindsT) (l : List UInt8) (hl : l.length < 4611686018427387904) (w : World) (hw : LaiE w) :
    Calls Tryd.prog 65 #[.agg #[.string (txt x.1), .int .i64 x.2.1, .int .i64 x.2.2.1, .string (txt x.2.2.2)], .string (txt l)] w fun e w' => ∃ (j : Ins) (ok : Bool), e = .returned (.tuple #[.agg #[.int .i64 j.op, .int .i64 j.a, .int .i64 j.b, .int .i64 j.c, .int .i64 j.n], .bool ok]) ∧ ((ok = true ∧ FitG setC x.2.2.2 l ⟨x.2.1, 0, 0, x.2.2.1, 0⟩ j) ∨ (ok = false ∧ ∀ j', ¬ FitG setC x.2.2.2 l ⟨x.2.1, 0, 0, x.2.2.1, 0⟩ j')) ∧ More w w' := by
  suffices hP : ∀ P : Ending → World → Prop, (∀ (j : Ins) (ok : Bool) w', ((ok = true ∧ FitG setC x.2.2.2 l ⟨x.2.1, 0, 0, x.2.2.1, 0⟩ j) ∨ (ok = false ∧ ∀ j', ¬ FitG setC x.2.2.2 l ⟨x.2.1, 0, 0, x.2.2.1, 0⟩ j')) → More w w' → P (.returned (.tuple #[.agg #[.int .i64 j.op, .int .i64 j.a, .int .i64 j.b, .int .i64 j.c, .int .i64 j.n], .bool ok])) w') → Calls Tryd.prog 65 #[.agg #[.string (txt x.1), .int .i64 x.2.1, .int .i64 x.2.2.1, .string (txt x.2.2.2)], .string (txt l)] w P from hP _ (fun j ok w' h m => ⟨j, ok, rfl, h, m⟩)
  intro P hP0
  have HP : Hid (∀ (j : Ins) (ok : Bool) w', ((ok = true ∧ FitG setC x.2.2.2 l ⟨x.2.1, 0, 0, x.2.2.1, 0⟩ j) ∨ (ok = false ∧ ∀ j', ¬ FitG setC x.2.2.2 l ⟨x.2.1, 0, 0, x.2.2.1, 0⟩ j')) → More w w' → P (.returned (.tuple #[.agg #[.int .i64 j.op, .int .i64 j.a, .int .i64 j.b, .int .i64 j.c, .int .i64 j.n], .bool ok])) w') := hP0
  have HL : Hid (LaiE w) := hw
  have CM : Hid (∀ b w1, Blk w1 b (insV ⟨x.2.1, 0, 0, x.2.2.1, 0⟩) 49 → LaiE w1 → Far b → Calls Tryd.prog 64 #[.string (txt x.2.2.2), .string (txt l), .func (.func 82) #[] #[.pointer (some ⟨b, 0, none⟩)]] w1 fun e w' => ∃ (j : Ins) (ok : Bool), e = .returned (.bool ok) ∧ ((ok = true ∧ FitG setC x.2.2.2 l ⟨x.2.1, 0, 0, x.2.2.1, 0⟩ j) ∨ (ok = false ∧ ∀ j', ¬ FitG setC x.2.2.2 l ⟨x.2.1, 0, 0, x.2.2.1, 0⟩ j')) ∧ Blk w' b (insV j) 49 ∧ w1.grownBy w' (some b)) := fun b w1 h1 h2 h3 => matchI_calls x hx _ b l hl w1 h1 h2 h3
  clear hP0 hw hl hx
  obtain ⟨xw, xo, xc, xf⟩ := x
  dsimp only at HP CM ⊢
  obtain ⟨tw, Htw⟩ : ∃ y, Hid (txt xw = y) := ⟨_, rfl⟩
  obtain ⟨tf, Htf⟩ : ∃ y, Hid (txt xf = y) := ⟨_, rfl⟩
  obtain ⟨tl, Htl⟩ : ∃ y, Hid (txt l = y) := ⟨_, rfl⟩
  rw [Htw.out, Htf.out, Htl.out]
  rw [Htf.out, Htl.out] at CM
  obtain ⟨W, HW⟩ : ∃ w_ : World, Hid (w_ = ((w.alloc (.cells #[.string tw, .int .i64 xo, .int .i64 xc, .string tf] 70)).alloc (.cells #[.int .i64 0, .int .i64 0, .int .i64 0, .int .i64 0, .int .i64 0] 49)).alloc (.cells #[.int .i64 xo, .int .i64 0, .int .i64 0, .int .i64 xc, .int .i64 0] 49)) := ⟨_, rfl⟩
  have HmW : Hid (More w W) := HW.out ▸ (((More.refl _).alloc _ _).alloc _ _).alloc _ _
  have HbR : Hid (Blk W (w.heap.size + 1) #[.int .i64 0, .int .i64 0, .int .i64 0, .int .i64 0, .int .i64 0] 49) := by
    rw [HW.out]; show Blk _ _ _ _
    refine Blk.alloc ?_ _ _
    simpa using Blk.last (w.alloc (.cells #[.string tw, .int .i64 xo, .int .i64 xc, .string tf] 70)) #[.int .i64 0, .int .i64 0, .int .i64 0, .int .i64 0, .int .i64 0] 49
  have HbI : Hid (Blk W (w.heap.size + 1 + 1) #[.int .i64 xo, .int .i64 0, .int .i64 0, .int .i64 xc, .int .i64 0] 49) := by
    rw [HW.out]; show Blk _ _ _ _
    simpa using Blk.last ((w.alloc (.cells #[.string tw, .int .i64 xo, .int .i64 xc, .string tf] 70)).alloc (.cells #[.int .i64 0, .int .i64 0, .int .i64 0, .int .i64 0, .int .i64 0] 49)) #[.int .i64 xo, .int .i64 0, .int .i64 0, .int .i64 xc, .int .i64 0] 49
  have hmf : ∀ (fn : Fn) (first cap : Array Value) (w : World), (Instr.makeFunc fn first cap).run Tryd.prog w = .ok (.func fn first cap) w := fun _ _ _ _ => rfl
  go_enter Tryd.func65, Tryd.ntmps65
  go_wp2_with (fail)
  rw [← HW.out]
  refine (CM.out (w.heap.size + 1 + 1) W HbI.out (HL.out.more HmW.out) (far_of HL.out (by omega))).mono ?_
  rintro e w1 ⟨j, ok, rfl, hj, hb1, g1⟩
  have Hb1 : Hid (Blk w1 (w.heap.size + 1 + 1) (insV j) 49) := hb1
  have HbR1 : Hid (Blk w1 (w.heap.size + 1) #[.int .i64 0, .int .i64 0, .int .i64 0, .int .i64 0, .int .i64 0] 49) := (g1.block _ HbR.out.lt (by simp)).trans HbR.out
  have Hm1 : Hid (More w w1) := HmW.out.grownBy g1 (fun k e => by obtain rfl := Option.some.inj e; omega)
  have HE := hid_tb (fun w' m => HP.out j ok w' hj m)
  clear hj hb1 g1 CM HP
  obtain ⟨op, a, b, c, n⟩ := j
  dsimp only at HE
  have i0 : w1.cell? ⟨w.heap.size + 1 + 1, 0, none⟩ = some (.int .i64 op) := Hb1.out.cell rfl
  have i1 : w1.cell? ⟨w.heap.size + 1 + 1, 1, none⟩ = some (.int .i64 a) := Hb1.out.cell rfl
  have i2 : w1.cell? ⟨w.heap.size + 1 + 1, 2, none⟩ = some (.int .i64 b) := Hb1.out.cell rfl
  have i3 : w1.cell? ⟨w.heap.size + 1 + 1, 3, none⟩ = some (.int .i64 c) := Hb1.out.cell rfl
  have i4 : w1.cell? ⟨w.heap.size + 1 + 1, 4, none⟩ = some (.int .i64 n) := Hb1.out.cell rfl
  have z0 : w1.cell? ⟨w.heap.size + 1, 0, none⟩ = some (.int .i64 0) := HbR1.out.cell rfl
  have z1 : w1.cell? ⟨w.heap.size + 1, 1, none⟩ = some (.int .i64 0) := HbR1.out.cell rfl
  have z2 : w1.cell? ⟨w.heap.size + 1, 2, none⟩ = some (.int .i64 0) := HbR1.out.cell rfl
  have z3 : w1.cell? ⟨w.heap.size + 1, 3, none⟩ = some (.int .i64 0) := HbR1.out.cell rfl
  have z4 : w1.cell? ⟨w.heap.size + 1, 4, none⟩ = some (.int .i64 0) := HbR1.out.cell rfl
  have zz := fun j => HbR1.out.frozen j
  have Hme : Hid (∀ v0 v1 v2 v3 v4, More w (((((w1.setCell ⟨w.heap.size + 1, 0, none⟩ v0).setCell ⟨w.heap.size + 1, 1, none⟩ v1).setCell ⟨w.heap.size + 1, 2, none⟩ v2).setCell ⟨w.heap.size + 1, 3, none⟩ v3).setCell ⟨w.heap.size + 1, 4, none⟩ v4)) := fun v0 v1 v2 v3 v4 =>
    ((((Hm1.out.setCell (by show w.heap.size ≤ w.heap.size + 1; omega) _).setCell (by show w.heap.size ≤ w.heap.size + 1; omega) _).setCell (by show w.heap.size ≤ w.heap.size + 1; omega) _).setCell (by show w.heap.size ≤ w.heap.size + 1; omega) _).setCell (by show w.heap.size ≤ w.heap.size + 1; omega) _
  go_wp2
  refine bodyPost_ret (v := .tuple #[.agg #[.int .i64 op, .int .i64 a, .int .i64 b, .int .i64 c, .int .i64 n], .bool ok]) (by simp [results, Tryd.results65, go_sem, *]) rfl ?_
  exact HE.out _ (Hme.out _ _ _ _ _)

theorem fit_any {sc : Bool} {l : List UInt8} {s s' lg : Int} : FitG (fun _ _ v => v) (regF sc) l s lg ↔ FitG (fun _ _ v => v) (regF sc) l s' lg := by
  have hF : ∃ F, regF sc = 32 :: 76 :: F := by cases sc <;> exact ⟨_, rfl⟩
  obtain ⟨F, hF⟩ := hF
  rw [hF, fitG_not _ (by decide), fitG_not _ (by decide)]
  have key : ∀ r, FitG (fun (_ : Int) (_ : UInt8) (v : Int) => v) (76 :: F) r s lg ↔ FitG (fun (_ : Int) (_ : UInt8) (v : Int) => v) (76 :: F) r s' lg := fun r => by rw [fitG_cap _ (by decide), fitG_cap _ (by decide)]
  constructor
  · rintro ⟨r, e, k⟩; exact ⟨r, e, (key r).1 k⟩
  · rintro ⟨r, e, k⟩; exact ⟨r, e, (key r).2 k⟩

set_option maxHeartbeats 2000000 in
theorem readRegion_calls (l : List UInt8) (hl : l.length < 4611686018427387904) (w : World) (hw : LaiE w) :
    Calls Tryd.prog 51 #[.string (txt l)] w fun e w' => ∃ (lg : Int) (sc ok : Bool), e = .returned (.tuple #[.agg #[.int .i64 lg, .bool sc], .bool ok]) ∧ ((ok = true ∧ FitG (fun _ _ v => v) (regF sc) l 0 lg) ∨ (ok = false ∧ ∀ sc' lg', ¬ FitG (fun _ _ v => v) (regF sc') l 0 lg')) ∧ More w w' := by
  suffices hP : ∀ P : Ending → World → Prop, (∀ (lg : Int) (sc ok : Bool) w', ((ok = true ∧ FitG (fun _ _ v => v) (regF sc) l 0 lg) ∨ (ok = false ∧ ∀ sc' lg', ¬ FitG (fun _ _ v => v) (regF sc') l 0 lg')) → More w w' → P (.returned (.tuple #[.agg #[.int .i64 lg, .bool sc], .bool ok])) w') → Calls Tryd.prog 51 #[.string (txt l)] w P from hP _ (fun lg sc ok w' h m => ⟨lg, sc, ok, rfl, h, m⟩)
  intro P hP0
  have HP : Hid (∀ (lg : Int) (sc ok : Bool) w', ((ok = true ∧ FitG (fun _ _ v => v) (regF sc) l 0 lg) ∨ (ok = false ∧ ∀ sc' lg', ¬ FitG (fun _ _ v => v) (regF sc') l 0 lg')) → More w w' → P (.returned (.tuple #[.agg #[.int .i64 lg, .bool sc], .bool ok])) w') := hP0
  have HL : Hid (LaiE w) := hw
  have CM : Hid (∀ sc sec lg b w1 F, F = txt (regF sc) → Blk w1 b #[.int .i64 lg, .bool sec] 42 → LaiE w1 → Far b → Calls Tryd.prog 64 #[.string F, .string (txt l), .func (.func 61) #[] #[.pointer (some ⟨b, 0, none⟩)]] w1 fun e w' => ∃ (lg' : Int) (ok : Bool), e = .returned (.bool ok) ∧ ((ok = true ∧ FitG (fun _ _ v => v) (regF sc) l 0 lg') ∨ (ok = false ∧ ∀ lg'', ¬ FitG (fun _ _ v => v) (regF sc) l 0 lg'')) ∧ Blk w' b #[.int .i64 lg', .bool sec] 42 ∧ w1.grownBy w' (some b)) := fun sc sec lg b w1 F hF h1 h2 h3 => by
    rw [hF]
    refine (matchR_calls sc sec lg b l hl w1 h1 h2 h3).mono ?_
    rintro e w' ⟨lg', ok, rfl, hk, r⟩
    refine ⟨lg', ok, rfl, ?_, r⟩
    rcases hk with ⟨a, k⟩ | ⟨a, k⟩
    · exact .inl ⟨a, fit_any.1 k⟩
    · exact .inr ⟨a, fun lg'' q => k lg'' (fit_any.1 q)⟩
  clear hP0 hw hl
  obtain ⟨tl, Htl⟩ : ∃ y, Hid (txt l = y) := ⟨_, rfl⟩
  rw [Htl.out] at CM ⊢
  obtain ⟨W, HW⟩ : ∃ w_ : World, Hid (w_ = (w.alloc (.cells #[.int .i64 0, .bool false] 42)).alloc (.cells #[.int .i64 0, .bool false] 42)) := ⟨_, rfl⟩
  have HmW : Hid (More w W) := HW.out ▸ ((More.refl _).alloc _ _).alloc _ _
  have HbR : Hid (Blk W w.heap.size #[.int .i64 0, .bool false] 42) := HW.out ▸ (Blk.last _ _ _).alloc _ _
  have HbI : Hid (Blk W (w.heap.size + 1) #[.int .i64 0, .bool false] 42) := by
    rw [HW.out]; show Blk _ _ _ _
    simpa using Blk.last (w.alloc (.cells #[.int .i64 0, .bool false] 42)) #[.int .i64 0, .bool false] 42
  have hmf : ∀ (fn : Fn) (first cap : Array Value) (w : World), (Instr.makeFunc fn first cap).run Tryd.prog w = .ok (.func fn first cap) w := fun _ _ _ _ => rfl
  have Hfin : Hid (∀ (lg : Int) (sc ok : Bool) (w2 : World), ((ok = true ∧ FitG (fun _ _ v => v) (regF sc) l 0 lg) ∨ (ok = false ∧ ∀ sc' lg', ¬ FitG (fun _ _ v => v) (regF sc') l 0 lg')) → More w w2 → P (.returned (.tuple #[.agg #[.int .i64 lg, .bool sc], .bool ok])) ((w2.setCell ⟨w.heap.size, 0, none⟩ (.int .i64 lg)).setCell ⟨w.heap.size, 1, none⟩ (.bool sc))) := fun lg sc ok w2 h m => HP.out lg sc ok _ h ((m.setCell (Nat.le_refl _) _).setCell (Nat.le_refl _) _)
  go_enter Tryd.func51, Tryd.ntmps51
  go_wp2_with (fail)
  rw [← HW.out]
  refine (CM.out true false 0 (w.heap.size + 1) W _ rfl HbI.out (HL.out.more HmW.out) (far_of HL.out (by omega))).mono ?_
  rintro e w1 ⟨lg, ok, rfl, hj, hb1, g1⟩
  have Hb1 : Hid (Blk w1 (w.heap.size + 1) #[.int .i64 lg, .bool false] 42) := hb1
  have HbR1 : Hid (Blk w1 w.heap.size #[.int .i64 0, .bool false] 42) := (g1.block _ HbR.out.lt (by simp)).trans HbR.out
  have Hm1 : Hid (More w w1) := HmW.out.grownBy g1 (fun k e => by obtain rfl := Option.some.inj e; omega)
  have Hj := hid_tb hj
  clear hj hb1 g1 HP
  have i0 : w1.cell? ⟨w.heap.size + 1, 0, none⟩ = some (.int .i64 lg) := Hb1.out.cell rfl
  have i1 : w1.cell? ⟨w.heap.size + 1, 1, none⟩ = some (.bool false) := Hb1.out.cell rfl
  have y1 := Hb1.out.frozen 1
  have z0 : w1.cell? ⟨w.heap.size, 0, none⟩ = some (.int .i64 0) := HbR1.out.cell rfl
  have z1 : w1.cell? ⟨w.heap.size, 1, none⟩ = some (.bool false) := HbR1.out.cell rfl
  have zz := fun j => HbR1.out.frozen j
  obtain ⟨W2, HW2⟩ : ∃ w_ : World, Hid (w_ = w1.setCell ⟨w.heap.size + 1, 1, none⟩ (.bool ok)) := ⟨_, rfl⟩
  have Hb2 : Hid (Blk W2 (w.heap.size + 1) #[.int .i64 lg, .bool ok] 42) := by rw [HW2.out]; show Blk _ _ _ _; simpa using Hb1.out.put 1 (.bool ok)
  have HbR2 : Hid (Blk W2 w.heap.size #[.int .i64 0, .bool false] 42) := HW2.out ▸ HbR1.out.other (by omega) _ _
  have Hm2 : Hid (More w W2) := HW2.out ▸ Hm1.out.setCell (by show w.heap.size ≤ w.heap.size + 1; omega) _
  cases ok with
  | true =>
    have HE := hid_tb (Hfin.out lg true true W2 (.inl ⟨rfl, by
      rcases Hj.out with ⟨_, k⟩ | ⟨k, _⟩
      · exact k
      · cases k⟩) Hm2.out)
    rw [HW2.out] at HE
    clear Hfin CM Hj
    go_wp2
    refine bodyPost_ret (v := .tuple #[.agg #[.int .i64 lg, .bool true], .bool true]) (by simp [results, Tryd.results51, go_sem, *]) rfl ?_
    exact HE.out
  | false =>
    have Hno : Hid (∀ lg', ¬ FitG (fun _ _ v => v) (regF true) l 0 lg') := by
      rcases Hj.out with ⟨k, _⟩ | ⟨_, k⟩
      · cases k
      · exact k
    have C2 := hid_tb (CM.out false false lg (w.heap.size + 1) W2 _ rfl Hb2.out (HL.out.more Hm2.out) (far_of HL.out (by omega)))
    clear CM Hj
    go_wp2_with (fail)
    rw [← HW2.out]
    refine C2.out.mono ?_
    rintro e w3 ⟨lg3, ok3, rfl, hj3, hb3, g3⟩
    have Hb3 : Hid (Blk w3 (w.heap.size + 1) #[.int .i64 lg3, .bool false] 42) := hb3
    have HbR3 : Hid (Blk w3 w.heap.size #[.int .i64 0, .bool false] 42) := (g3.block _ HbR2.out.lt (by simp)).trans HbR2.out
    have HE := hid_tb (Hfin.out lg3 false ok3 w3 (by
      rcases hj3 with ⟨a, k⟩ | ⟨a, k⟩
      · exact .inl ⟨a, k⟩
      · refine .inr ⟨a, fun sc' lg' q => ?_⟩
        cases sc' with
        | false => exact k lg' q
        | true => exact Hno.out lg' q) (Hm2.out.grownBy g3 (fun k e => by obtain rfl := Option.some.inj e; omega)))
    clear hj3 hb3 g3 Hfin C2 i0 i1 y1 z0 z1 zz
    have i0 : w3.cell? ⟨w.heap.size + 1, 0, none⟩ = some (.int .i64 lg3) := Hb3.out.cell rfl
    have i1 : w3.cell? ⟨w.heap.size + 1, 1, none⟩ = some (.bool false) := Hb3.out.cell rfl
    have z0 : w3.cell? ⟨w.heap.size, 0, none⟩ = some (.int .i64 0) := HbR3.out.cell rfl
    have z1 : w3.cell? ⟨w.heap.size, 1, none⟩ = some (.bool false) := HbR3.out.cell rfl
    have zz := fun j => HbR3.out.frozen j
    go_wp2
    refine bodyPost_ret (v := .tuple #[.agg #[.int .i64 lg3, .bool false], .bool ok3]) (by simp [results, Tryd.results51, go_sem, *]) rfl ?_
    exact HE.out
/-- What a line's word and the rest are read as. -/
def InsAns (wd l : List UInt8) (j : Ins) (ok : Bool) : Prop := (ok = true ∧ ∃ x ∈ kindsT, x.1 = wd ∧ FitG setC x.2.2.2 l ⟨x.2.1, 0, 0, x.2.2.1, 0⟩ j) ∨ (ok = false ∧ ∀ x ∈ kindsT, x.1 = wd → ∀ j', ¬ FitG setC x.2.2.2 l ⟨x.2.1, 0, 0, x.2.2.1, 0⟩ j')

set_option maxHeartbeats 4000000 in
theorem readIns_calls (wd l : List UInt8) (hl : l.length < 4611686018427387904) (w : World) (hw : LaiE w) :
    Calls Tryd.prog 52 #[.string (txt wd), .string (txt l)] w fun e w' => ∃ (j : Ins) (ok : Bool), e = .returned (.tuple #[.agg #[.int .i64 j.op, .int .i64 j.a, .int .i64 j.b, .int .i64 j.c, .int .i64 j.n], .bool ok]) ∧ InsAns wd l j ok ∧ More w w' := by
  obtain ⟨t0, fz, hk⟩ := hw.toLai.kinds
  suffices hP : ∀ P : Ending → World → Prop, (∀ (j : Ins) (ok : Bool) w', InsAns wd l j ok → More w w' → P (.returned (.tuple #[.agg #[.int .i64 j.op, .int .i64 j.a, .int .i64 j.b, .int .i64 j.c, .int .i64 j.n], .bool ok])) w') → Calls Tryd.prog 52 #[.string (txt wd), .string (txt l)] w P from hP _ (fun j ok w' h m => ⟨j, ok, rfl, h, m⟩)
  intro P hP0
  have HP : Hid (∀ (j : Ins) (ok : Bool) (w2 : World), InsAns wd l j ok → More w w2 → P (.returned (.tuple #[.agg #[.int .i64 j.op, .int .i64 j.a, .int .i64 j.b, .int .i64 j.c, .int .i64 j.n], .bool ok])) (((((w2.setCell ⟨w.heap.size, 0, none⟩ (.int .i64 j.op)).setCell ⟨w.heap.size, 1, none⟩ (.int .i64 j.a)).setCell ⟨w.heap.size, 2, none⟩ (.int .i64 j.b)).setCell ⟨w.heap.size, 3, none⟩ (.int .i64 j.c)).setCell ⟨w.heap.size, 4, none⟩ (.int .i64 j.n))) := fun j ok w2 h m =>
    hP0 j ok _ h (((((m.setCell (Nat.le_refl _) _).setCell (Nat.le_refl _) _).setCell (Nat.le_refl _) _).setCell (Nat.le_refl _) _).setCell (Nat.le_refl _) _)
  have HL : Hid (LaiE w) := hw
  have CR : Hid (∀ (x : Kd) w1, x ∈ kindsT → LaiE w1 → Calls Tryd.prog 65 #[.agg #[.string (txt x.1), .int .i64 x.2.1, .int .i64 x.2.2.1, .string (txt x.2.2.2)], .string (txt l)] w1 fun e w' => ∃ (j : Ins) (ok : Bool), e = .returned (.tuple #[.agg #[.int .i64 j.op, .int .i64 j.a, .int .i64 j.b, .int .i64 j.c, .int .i64 j.n], .bool ok]) ∧ ((ok = true ∧ FitG setC x.2.2.2 l ⟨x.2.1, 0, 0, x.2.2.1, 0⟩ j) ∨ (ok = false ∧ ∀ j', ¬ FitG setC x.2.2.2 l ⟨x.2.1, 0, 0, x.2.2.1, 0⟩ j')) ∧ More w1 w') := fun x w1 hx h1 => kread_calls x hx l hl w1 h1
  have hwl : (txt wd).toList = wd := ByteArray.toList_mk _
  clear hP0 hw hl
  obtain ⟨tw, Htw⟩ : ∃ y, Hid (txt wd = y) := ⟨_, rfl⟩
  obtain ⟨tl, Htl⟩ : ∃ y, Hid (txt l = y) := ⟨_, rfl⟩
  rw [Htl.out] at CR ⊢
  rw [Htw.out] at hwl ⊢
  obtain ⟨KA, HKA⟩ : ∃ x, Hid (kindsC.toArray = x) := ⟨_, rfl⟩
  rw [HKA.out] at hk
  have hi : (Tryd.prog.info? 87).map (·.size) = some KA.size := by rw [← HKA.out]; exact kinds_info
  have Hix : Hid (∀ (k : Nat) (x : Kd), kindsT[k]? = some x → ∀ w1, (Instr.index 87 (.agg KA) (.int .i64 k)).run Tryd.prog w1 = .ok (.agg #[.string (txt x.1), .int .i64 x.2.1, .int .i64 x.2.2.1, .string (txt x.2.2.2)]) w1) := fun k x h w1 => by rw [← HKA.out]; exact kind_index h w1
  obtain ⟨W, HW⟩ : ∃ w_ : World, Hid (w_ = w.alloc (.cells #[.int .i64 0, .int .i64 0, .int .i64 0, .int .i64 0, .int .i64 0] 49)) := ⟨_, rfl⟩
  have HmW : Hid (More w W) := HW.out ▸ (More.refl _).alloc _ _
  have HbR : Hid (Blk W w.heap.size #[.int .i64 0, .int .i64 0, .int .i64 0, .int .i64 0, .int .i64 0] 49) := HW.out ▸ Blk.last _ _ _
  have hkW : W.heap[0]? = some (.cells KA t0 fz) := heap_more HmW.out hk
  clear hk
  go_enter Tryd.func52, Tryd.ntmps52
  go_wp2_with (rw [← HW.out]; refine wpList_load_row rfl 87 (.global 0) rfl 0 rfl t0 KA fz _ hkW Tryd.underlying87 rfl hi ?_)
  go_loopg [9] 25 (fun g kv wr => ∃ k : Nat, k + g = 25 ∧ kv = .int .i64 k ∧ Hid (More W wr ∧ ∀ (j : Nat) (x : Kd), j < k → kindsT[j]? = some x → ¬ x.1 = wd))
  case atStart => exact ⟨0, by omega, rfl, More.refl _, fun j x h => absurd h (Nat.not_lt_zero _)⟩
  case round =>
    obtain ⟨k, hkg, rfl, Hr⟩ := hrel
    have HbR1 : Hid (Blk wr w.heap.size #[.int .i64 0, .int .i64 0, .int .i64 0, .int .i64 0, .int .i64 0] 49) := HbR.out.more Hr.out.1
    have lt0 := HbR1.out.lt
    cases gk with
    | zero =>
      have HE := hid_tb (HP.out ⟨0, 0, 0, 0, 0⟩ false wr (.inr ⟨rfl, fun x hx e => by
        obtain ⟨j, hj, e2⟩ := List.getElem_of_mem hx
        exact absurd e (Hr.out.2 j x (by rw [kindsT_length] at hj; omega) (by rw [List.getElem?_eq_getElem hj, e2]))⟩) (HmW.out.trans Hr.out.1))
      obtain rfl : k = 25 := by omega
      dsimp only at HE
      have z0 : wr.cell? ⟨w.heap.size, 0, none⟩ = some (.int .i64 0) := HbR1.out.cell rfl
      have z1 : wr.cell? ⟨w.heap.size, 1, none⟩ = some (.int .i64 0) := HbR1.out.cell rfl
      have z2 : wr.cell? ⟨w.heap.size, 2, none⟩ = some (.int .i64 0) := HbR1.out.cell rfl
      have z3 : wr.cell? ⟨w.heap.size, 3, none⟩ = some (.int .i64 0) := HbR1.out.cell rfl
      have z4 : wr.cell? ⟨w.heap.size, 4, none⟩ = some (.int .i64 0) := HbR1.out.cell rfl
      have zz := fun j => HbR1.out.frozen j
      clear HP CR Hix Hr
      go_wp2
      refine bodyPost_ret (v := .tuple #[.agg #[.int .i64 0, .int .i64 0, .int .i64 0, .int .i64 0, .int .i64 0], .bool false]) (by simp [results, Tryd.results52, go_sem, *]) rfl ?_
      exact HE.out
    | succ g =>
      have hk : k < 25 := by omega
      have hki : (k : Int) < 25 := by omega
      have hk63 : wrap64 ((k : Int) + 1) = (k : Int) + 1 := by unfold wrap64; omega
      obtain ⟨x, hxk⟩ : ∃ x, kindsT[k]? = some x := ⟨kindsT[k]'(by rw [kindsT_length]; exact hk), List.getElem?_eq_getElem _⟩
      have hix := Hix.out k x hxk
      have Hxk : Hid (x ∈ kindsT) := kind_cases hxk
      have Hno : Hid (¬ x.1 = wd → ∀ w', More W w' → ∃ k' : Nat, k' + g = 25 ∧ Value.int .i64 ((k : Int) + 1) = .int .i64 k' ∧ Hid (More W w' ∧ ∀ (j : Nat) (x : Kd), j < k' → kindsT[j]? = some x → ¬ x.1 = wd)) := fun f w' m => by
        refine ⟨k + 1, by omega, by simp, m, fun j y hj hy => ?_⟩
        by_cases e : j = k
        · subst e
          rw [hxk] at hy
          obtain rfl := Option.some.inj hy
          exact f
        · exact Hr.out.2 j y (by omega) hy
      have HmR : Hid (More W wr) := Hr.out.1
      have CX := hid_tb (fun w1 h1 => CR.out x w1 Hxk.out h1)
      have Hyes : Hid (x.1 = wd → ∀ (j : Ins) (ok : Bool), ((ok = true ∧ FitG setC x.2.2.2 l ⟨x.2.1, 0, 0, x.2.2.1, 0⟩ j) ∨ (ok = false ∧ ∀ j', ¬ FitG setC x.2.2.2 l ⟨x.2.1, 0, 0, x.2.2.1, 0⟩ j')) → InsAns wd l j ok) := fun e j ok h => by
        rcases h with ⟨a, k⟩ | ⟨a, k⟩
        · exact .inl ⟨a, x, Hxk.out, e, k⟩
        · refine .inr ⟨a, fun y hy e2 => ?_⟩
          rw [kind_one hy Hxk.out (e2.trans e.symm)]
          exact k
      have hxl : (txt x.1).toList = x.1 := ByteArray.toList_mk _
      have hxc : x.1 = wd ∨ ¬ x.1 = wd := Classical.em _
      obtain ⟨yw, Hyw⟩ : ∃ y, Hid (txt x.1 = y) := ⟨_, rfl⟩
      obtain ⟨yf, Hyf⟩ : ∃ y, Hid (txt x.2.2.2 = y) := ⟨_, rfl⟩
      obtain ⟨xo, Hxo⟩ : ∃ y, Hid (x.2.1 = y) := ⟨_, rfl⟩
      obtain ⟨xc, Hxc⟩ : ∃ y, Hid (x.2.2.1 = y) := ⟨_, rfl⟩
      rw [Hyw.out] at hix hxl CX
      rw [Hyf.out] at hix CX
      obtain ⟨wk, Hwk⟩ : ∃ w_ : World, Hid (w_ = wr.alloc (.cells #[.string yw, .int .i64 xo, .int .i64 xc, .string yf] 70)) := ⟨_, rfl⟩
      have Hm2 : Hid (More W wk) := HmR.out.trans (Hwk.out ▸ (More.refl _).alloc _ _)
      clear CR Hix Hr hxk
      rw [Hxo.out, Hxc.out] at hix
      rcases hxc with e1 | e1
      · have q1 : (yw.toList == tw.toList) = true := by rw [hxl, hwl, e1]; simp
        have q2 : yw.toList = tw.toList := by rw [hxl, hwl, e1]
        have HY := hid_tb (Hyes.out e1)
        have CY := hid_tb (CX.out wk (HL.out.more (HmW.out.trans Hm2.out)))
        have HbR2 : Hid (Blk wk w.heap.size #[.int .i64 0, .int .i64 0, .int .i64 0, .int .i64 0, .int .i64 0] 49) := HbR.out.more Hm2.out
        rw [Hxo.out, Hxc.out] at CY HY
        clear Hyes Hno CX hxl hwl e1
        go_wp2_with (fail)
        rw [← Hwk.out]
        refine CY.out.mono ?_
        rintro e w3 ⟨j, ok, rfl, hj, m3⟩
        have HbR3 : Hid (Blk w3 w.heap.size #[.int .i64 0, .int .i64 0, .int .i64 0, .int .i64 0, .int .i64 0] 49) := HbR2.out.more m3
        have HE := hid_tb (HP.out j ok w3 (HY.out j ok hj) ((HmW.out.trans Hm2.out).trans m3))
        obtain ⟨op, a, b, c, n⟩ := j
        dsimp only at HE ⊢
        clear hj m3 CY HY HP
        have z0 : w3.cell? ⟨w.heap.size, 0, none⟩ = some (.int .i64 0) := HbR3.out.cell rfl
        have z1 : w3.cell? ⟨w.heap.size, 1, none⟩ = some (.int .i64 0) := HbR3.out.cell rfl
        have z2 : w3.cell? ⟨w.heap.size, 2, none⟩ = some (.int .i64 0) := HbR3.out.cell rfl
        have z3 : w3.cell? ⟨w.heap.size, 3, none⟩ = some (.int .i64 0) := HbR3.out.cell rfl
        have z4 : w3.cell? ⟨w.heap.size, 4, none⟩ = some (.int .i64 0) := HbR3.out.cell rfl
        have zz := fun j => HbR3.out.frozen j
        go_wp2
        refine bodyPost_ret (v := .tuple #[.agg #[.int .i64 op, .int .i64 a, .int .i64 b, .int .i64 c, .int .i64 n], .bool ok]) (by simp [results, Tryd.results52, go_sem, *]) rfl ?_
        exact HE.out
      · have q1 : (yw.toList == tw.toList) = false := by rw [hxl, hwl]; simpa using e1
        have q2 : ¬ yw.toList = tw.toList := by rw [hxl, hwl]; exact e1
        have HN := hid_tb (Hno.out e1 wk Hm2.out)
        clear Hyes Hno CX HP hxl hwl e1
        go_wp2
        go_roundg g
        case measure => omega
        case rel => rw [← Hwk.out]; exact HN.out
end
section
open Go
section
variable {P : Program} {ops : Array Oper} {Q : Exit → Act → World → Prop} {md : Region.Mode} {S : World → Prop} {ex : List Nat}

/-- Does operation j wait for every other one? -/
def waitsM (ex : List Nat) (md : Region.Mode) (ops : Array Oper) (j : Nat) : Bool :=
  match ops[j]? with
  | none => false
  | some o => (List.range ops.size).all fun i => i == j || ex.contains i || o.after.any fun e => Region.binds md e && e.on == i

/-- Whatever comes up: behind it S holds, unless it waited for all. -/
def AnyM (ex : List Nat) (P : Program) (md : Region.Mode) (ops : Array Oper) (Q : Exit → Act → World → Prop) (S : World → Prop) : Nat → Array Bool → Act → World → Prop
  | 0, l, a, w => Region.ready md ops l = [] ∧ Q .normal a w
  | n + 1, l, a, w => (Region.ready md ops l = [] → Q .normal a w) ∧ ∀ i ∈ Region.ready md ops l, wpOp P ops Q i (fun a' w' => (waitsM ex md ops i = false → S w → S w') ∧ AnyM ex P md ops Q S n (l.setIfInBounds i true) a' w') a w

theorem AnyM.any : ∀ (n : Nat) (l : Array Bool) (a : Act) (w : World), AnyM ex P md ops Q S n l a w → wpAny P md ops Q n l a w
  | 0, _, _, _, h => h
  | n + 1, _, _, _, h => ⟨h.1, fun i hi => wpOp_mono (fun a' w' h' => AnyM.any n _ a' w' h'.2) (h.2 i hi)⟩

/-- One that may come up while another is unlisted does not wait for that one. -/
theorem waits_noM {i j : Nat} {l : Array Bool} (hex : ex.contains i = false) (hi : i ∈ Region.ready md ops l) (hj : j ∈ Region.ready md ops l) (hne : j ≠ i) : waitsM ex md ops j = false := by
  cases hb : waitsM ex md ops j with
  | false => rfl
  | true =>
    exfalso
    obtain ⟨_, oj, hoj, hall⟩ := mem_ready.1 hj
    obtain ⟨hun, oi, hoi, _⟩ := mem_ready.1 hi
    unfold waitsM at hb
    rw [hoj] at hb
    dsimp only at hb
    rw [List.all_eq_true] at hb
    have h1 := hb i (List.mem_range.2 (Array.getElem?_eq_some_iff.1 hoi).1)
    rw [Bool.or_eq_true, Bool.or_eq_true, hex] at h1
    rcases h1 with (h1 | h1) | h1
    rotate_left
    · cases h1
    rotate_left
    · exact hne (by simpa using h1 : i = j).symm
    · obtain ⟨e, he, hbe⟩ := Array.any_eq_true'.1 h1
      rw [Bool.and_eq_true, beq_iff_eq] at hbe
      have h2 := hall e he hbe.1
      rw [hbe.2] at h2
      rcases Nat.lt_or_ge i l.size with h' | h'
      · simp [h'] at hun h2; rw [hun] at h2; cases h2
      · simp [Array.getElem?_eq_none h'] at h2

theorem AnyM.take {i : Nat} {oi : Oper} {v : Value} (hi : ops[i]? = some oi) (hs : Region.noSelect ops = true) (hQ : ∀ c a w, Q (.panic c) (a.put oi.dst v) w → Q (.panic c) a w) :
    ∀ (n : Nat) (l : Array Bool) (a : Act) (w : World), (∀ j oj, ops[j]? = some oj → j ≠ i → l.getD j true = false → (∀ e ∈ oj.after, Region.binds md e = true → e.on ≠ i) → oi.apart ops oj = true) →
      i ∈ Region.ready md ops l → YieldsIf P ops (fun w => ex.contains i = false → S w) oi v a → (ex.contains i = false → S w) → AnyM ex P md ops Q S n (l.setIfInBounds i true) (a.put oi.dst v) w → AnyM ex P md ops Q S (n + 1) l a w
  | n, l, a, w, hf, hr, hy, hS, H => by
    refine ⟨fun h => absurd hr (by rw [h]; simp), fun j hj => ?_⟩
    by_cases hji : j = i
    · subst hji
      exact hy.wpOp hi hS ⟨fun _ h => h, H⟩
    have hjm := ready_mono hj hji
    cases n with
    | zero => rw [H.1] at hjm; cases hjm
    | succ n =>
      obtain ⟨hjun, oj, hoj, hall⟩ := mem_ready.1 hj
      have hno : ∀ e ∈ oj.after, Region.binds md e = true → e.on ≠ i := fun e he hb hei => by
        have h1 := hall e he hb
        have h0 := (mem_ready.1 hr).1
        rw [hei] at h1
        rcases Nat.lt_or_ge i l.size with h' | h'
        · simp [h'] at h0 h1; rw [h0] at h1; cases h1
        · simp [Array.getElem?_eq_none h'] at h1
      have h2 := wpOp_putIf hoj (hf j oj hoj hji hjun hno) (fun cs b => Region.noSelect_spec hs i oi cs b hi) (fun cs b => Region.noSelect_spec hs j oj cs b hoj) hQ hy (H.2 j hjm)
      refine wpOp_mono (fun a' w' h3 => ?_) h2
      refine ⟨h3.2.1, AnyM.take hi hs hQ n (l.setIfInBounds j true) a' w' (fun k ok hk hki hun hno' => hf k ok hk hki ?_ hno') (ready_mono hr (Ne.symm hji)) h3.1 (fun hx => h3.2.1 (waits_noM hx hr hj hji) (hS hx)) ?_⟩
      · by_cases e : j = k
        · subst e; exact hjun
        · rw [getD_set_ne true e] at hun; exact hun
      · rw [Array.setIfInBounds_comm _ _ hji]
        exact h3.2.2

/-- The walk by a named order. -/
def wpOrdM (ex : List Nat) (P : Program) (ops : Array Oper) (Q : Exit → Act → World → Prop) (S : World → Prop) : List (Nat × Bool) → Act → World → Prop
  | [], a, w => Q .normal a w
  | (i, t) :: rest, a, w =>
    match ops[i]? with
    | none => False
    | some o => if t then OrdTake P ops (fun w' => ex.contains i = false → S w') o a w (fun a' w' => wpOrdM ex P ops Q S rest a' w') else OrdBusy P ops Q o a w (fun a' w' => (waitsM ex .any ops i = false → S w') ∧ (rest ≠ [] → S w') ∧ wpOrdM ex P ops Q S rest a' w')

theorem wpOrdM_any (hs : Region.noSelect ops = true) (hQ : ∀ c (a : Act) d v w, Q (.panic c) (a.put d v) w → Q (.panic c) a w) :
    ∀ (l : List (Nat × Bool)) (listed : Array Bool) (a : Act) (w : World), ordB .any ops l listed = true → (l ≠ [] → S w) → wpOrdM ex P ops Q S l a w → AnyM ex P .any ops Q S l.length listed a w
  | [], listed, a, w, hB, _, h => ⟨by simpa [ordB] using hB, h⟩
  | (i, t) :: rest, listed, a, w, hB, hS, h => by
    replace hS : S w := hS (by simp)
    simp only [ordB, Bool.and_eq_true] at hB
    obtain ⟨⟨ho, hc⟩, hB'⟩ := hB
    obtain ⟨o, ho⟩ := Option.isSome_iff_exists.1 ho
    simp only [wpOrdM, ho] at h
    cases t with
    | true =>
      simp only [if_true, Bool.and_eq_true] at hc h
      unfold OrdTake at h
      have hr : i ∈ Region.ready .any ops listed := by simpa using hc.2
      by_cases hw : Region.wanted o (yielded ops a.tmps) = true
      · rw [if_pos hw] at h
        obtain ⟨v, hv, hk⟩ := h
        exact AnyM.take ho hs (fun c a w => hQ c a _ _ w) _ _ _ _ (Region.free_spec ho hc.1) hr (.inl ⟨hw, fun w' hw' => hv ⟨w', hw'⟩⟩) (fun _ => hS) (wpOrdM_any hs hQ rest _ _ _ hB' (fun _ => hS) hk)
      · rw [if_neg hw] at h
        exact AnyM.take ho hs (fun c a w => hQ c a _ _ w) _ _ _ _ (Region.free_spec ho hc.1) hr (.inr ⟨by simpa using hw, rfl⟩) (fun _ => hS) (wpOrdM_any hs hQ rest _ _ _ hB' (fun _ => hS) h)
    | false =>
      simp only [Bool.false_eq_true, if_false, beq_iff_eq] at hc h
      refine ⟨fun h0 => absurd (hc.symm.trans h0) (by simp), fun j hj => ?_⟩
      obtain rfl : j = i := by rw [hc] at hj; simpa using hj
      unfold OrdBusy at h
      unfold wpOp
      rw [ho]
      show if Region.wanted o (yielded ops a.tmps) = true then _ else _
      by_cases hw : Region.wanted o (yielded ops a.tmps) = true
      · rw [if_pos hw] at h ⊢
        exact .inl (Oper.wp_mono (fun a' w' h' => ⟨fun hb _ => h'.1 hb, wpOrdM_any hs hQ rest _ _ _ hB' h'.2.1 h'.2.2⟩) h)
      · rw [if_neg hw] at h ⊢
        exact ⟨fun hb _ => h.1 hb, wpOrdM_any hs hQ rest _ _ _ hB' h.2.1 h.2.2⟩

structure OrdM (ex : List Nat) (P : Program) (ops : Array Oper) (Q : Exit → Act → World → Prop) (S : World → Prop) (l : List (Nat × Bool)) (a : Act) (w : World) : Prop where
  out : wpOrdM ex P ops Q S l a w

theorem wp_region_lastM {id : Nat} {a : Act} {w : World} (ex : List Nat) (l : List (Nat × Bool)) (hm : P.follows .mixedOrders = true) (hs : Region.noSelect ops = true)
    (hB : (ordB .any ops l (Array.replicate ops.size false) && l.length == ops.size) = true) (hS : S w.drew) (h : OrdM ex P ops (NoPanic Q) S l a w.drew) : (Code.region id ops true).wp P Q a w := by
  rw [Bool.and_eq_true] at hB
  have hl : l.length = ops.size := by simpa using hB.2
  refine wp_region_noPanic (wp_region_any hm ?_)
  rw [← hl]
  have := wpOrdM_any (ex := ex) (P := P) (S := S) (Q := NoPanic Q) hs (fun _ _ _ _ _ h => h) l (Array.replicate ops.size false) a w.drew hB.1 (fun _ => hS) h.out
  have := this.any
  rwa [← hl] at this

theorem wpOrdM_pure {ls : List Oper} {i : Nat} {o : Oper} {rest : List (Nat × Bool)} {a : Act} {w : World} (ho' : nth ls i = some o) (hw : Region.wanted o (yielded ls.toArray a.tmps) = true)
    (h : ∀ K : Act → World → Prop, (∀ a w, OrdM ex P ls.toArray Q S rest a w → K a w) → ∃ v, (∀ w' : World, (execOp a.eval o).run P w' = .ok (.value v) w') ∧ K (a.put o.dst v) w) :
    OrdM ex P ls.toArray Q S ((i, true) :: rest) a w := by
  have ho := nth_arr ho'
  refine ⟨?_⟩
  simp only [wpOrdM, ho]
  unfold OrdTake
  simp only [if_true]
  rw [if_pos hw]
  obtain ⟨v, h1, h2⟩ := h _ (fun _ _ h => h.out)
  exact ⟨v, fun i => h1 _, h2⟩
theorem wpOrdM_take {ls : List Oper} {i : Nat} {o : Oper} {rest : List (Nat × Bool)} {a : Act} {w : World} (ho' : nth ls i = some o) (hw : Region.wanted o (yielded ls.toArray a.tmps) = true) (hx : ex.contains i = false)
    (h : ∀ K : Act → World → Prop, (∀ a w, OrdM ex P ls.toArray Q S rest a w → K a w) → ∃ v, (∀ i : { w' // S w' }, (execOp a.eval o).run P i.val = .ok (.value v) i.val) ∧ K (a.put o.dst v) w) :
    OrdM ex P ls.toArray Q S ((i, true) :: rest) a w := by
  have ho := nth_arr ho'
  refine ⟨?_⟩
  simp only [wpOrdM, ho]
  unfold OrdTake
  simp only [if_true]
  rw [if_pos hw]
  obtain ⟨v, h1, h2⟩ := h _ (fun _ _ h => h.out)
  exact ⟨v, fun i => h1 ⟨i.val, i.property hx⟩, h2⟩
theorem wpOrdM_busy {ls : List Oper} {i : Nat} {o : Oper} {rest : List (Nat × Bool)} {a : Act} {w : World} (ho' : nth ls i = some o) (hw : Region.wanted o (yielded ls.toArray a.tmps) = true)
    (h : ∀ K : Act → World → Prop, (∀ a w, S w → OrdM ex P ls.toArray Q S rest a w → K a w) → Oper.wp P o a w K Q) : OrdM ex P ls.toArray Q S ((i, false) :: rest) a w := by
  have ho := nth_arr ho'
  refine ⟨?_⟩
  simp only [wpOrdM, ho, Bool.false_eq_true, if_false]
  unfold OrdBusy
  rw [if_pos hw]
  exact h _ (fun _ _ hs h => ⟨fun _ => hs, fun _ => hs, h.out⟩)
/-- The last one, which waits for all. -/
theorem wpOrdM_last {ls : List Oper} {i : Nat} {o : Oper} {a : Act} {w : World} (ho' : nth ls i = some o) (hw : Region.wanted o (yielded ls.toArray a.tmps) = true) (hl : waitsM ex .any ls.toArray i = true)
    (h : ∀ K : Act → World → Prop, (∀ a w, Q .normal a w → K a w) → Oper.wp P o a w K Q) : OrdM ex P ls.toArray Q S [(i, false)] a w := by
  have ho := nth_arr ho'
  refine ⟨?_⟩
  simp only [wpOrdM, ho, Bool.false_eq_true, if_false]
  unfold OrdBusy
  rw [if_pos hw]
  exact h _ (fun _ _ h => ⟨fun e => absurd (hl.symm.trans e) (by simp), fun e => absurd rfl e, h⟩)
end
end
section
open Go.RowKit
set_option linter.unusedSimpArgs false
set_option linter.unusedVariables false
set_option maxRecDepth 8000
/-- The reader in block M: its two slices, and their rows behind it. -/
structure R12 (M : Nat) (rs : List (Int × Bool)) (cs : List Ins) (rv cv : Value) (wr : World) : Prop where
  prg : Blk wr M #[rv, cv] 55
  ownR : wr.ownsRow (M + 1) 42 2 rv rs.length (celR rs)
  ownC : wr.ownsRow (M + 1) 49 5 cv cs.length (celI cs)
theorem R12.up {M : Nat} {rs : List (Int × Bool)} {cs : List Ins} {rv cv : Value} {wr w' : World} (h : R12 M rs cs rv cv wr) (m : More wr w') : R12 M rs cs rv cv w' := ⟨h.prg.more m, own_more h.ownR m, own_more h.ownC m⟩
theorem own_slice {w : World} {base : Nat} {e : TypeId} {size : Nat} {v : Value} {n : Nat} {xs : List Value} (h : w.ownsRow base e size v n xs) : ∃ a c, v = .slice a n c := by
  rcases h.2 with ⟨rfl, rfl⟩ | ⟨g, cap, cur, rfl, _⟩
  · exact ⟨_, _, rfl⟩
  · exact ⟨_, _, rfl⟩
theorem R12.addC {M : Nat} {rs : List (Int × Bool)} {cs : List Ins} {rv cv : Value} {wr w2 : World} (h : R12 M rs cs rv cv wr) (g2 : wr.grownBy w2 cv.ownBlock) {j : Ins} {g c : Nat}
    (own : w2.ownsRow (M + 1) 49 5 (.slice (some ⟨g, 0, none⟩) (cs.length + 1) c) (cs.length + 1) (celI cs ++ celI [j])) : R12 M rs (cs ++ [j]) rv (.slice (some ⟨g, 0, none⟩) (cs.length + 1) c) (w2.setCell ⟨M, 1, none⟩ (.slice (some ⟨g, 0, none⟩) (cs.length + 1) c)) := by
  have hb : ∀ b, cv.ownBlock = some b → M + 1 ≤ b := fun b hb => (h.ownC.lt b hb).1
  have hB : Blk w2 M #[rv, cv] 55 := (g2.block _ h.prg.lt (fun e => by have := hb _ e.symm; omega)).trans h.prg
  have hg := (own.lt g rfl).1
  have hr : ∀ b, rv.ownBlock = some b → M + 1 ≤ b := fun b hb => (h.ownR.lt b hb).1
  refine ⟨by simpa using hB.put 1 (.slice (some ⟨g, 0, none⟩) (cs.length + 1) c), ?_, ?_⟩
  · refine World.ownsRow.kept (World.ownsRow.kept h.ownR g2 (own_apart h.ownR h.ownC (by decide))) (grown_set _ _ _ _) ?_
    cases hv : rv.ownBlock with
    | none => left; rfl
    | some b => right; have := hr b hv; simp; omega
  · rw [celI_app, show (cs ++ [j]).length = cs.length + 1 by simp]
    exact World.ownsRow.kept own (grown_set _ _ _ _) (.inr (by simp [Value.ownBlock]; omega))
theorem R12.addR {M : Nat} {rs : List (Int × Bool)} {cs : List Ins} {rv cv : Value} {wr w2 : World} (h : R12 M rs cs rv cv wr) (g2 : wr.grownBy w2 rv.ownBlock) {j : Int × Bool} {g c : Nat}
    (own : w2.ownsRow (M + 1) 42 2 (.slice (some ⟨g, 0, none⟩) (rs.length + 1) c) (rs.length + 1) (celR rs ++ celR [j])) : R12 M (rs ++ [j]) cs (.slice (some ⟨g, 0, none⟩) (rs.length + 1) c) cv (w2.setCell ⟨M, 0, none⟩ (.slice (some ⟨g, 0, none⟩) (rs.length + 1) c)) := by
  have hb : ∀ b, rv.ownBlock = some b → M + 1 ≤ b := fun b hb => (h.ownR.lt b hb).1
  have hB : Blk w2 M #[rv, cv] 55 := (g2.block _ h.prg.lt (fun e => by have := hb _ e.symm; omega)).trans h.prg
  have hg := (own.lt g rfl).1
  have hr : ∀ b, cv.ownBlock = some b → M + 1 ≤ b := fun b hb => (h.ownC.lt b hb).1
  refine ⟨by simpa using hB.put 0 (.slice (some ⟨g, 0, none⟩) (rs.length + 1) c), ?_, ?_⟩
  · rw [celR_app, show (rs ++ [j]).length = rs.length + 1 by simp]
    exact World.ownsRow.kept own (grown_set _ _ _ _) (.inr (by simp [Value.ownBlock]; omega))
  · refine World.ownsRow.kept (World.ownsRow.kept h.ownC g2 (own_apart h.ownC h.ownR (by decide))) (grown_set _ _ _ _) ?_
    cases hv : cv.ownBlock with
    | none => left; rfl
    | some b => right; have := hr b hv; simp; omega

theorem info_insR : (Tryd.prog.info? 49).map (fun i => (i.zero, i.size, i.bytes)) = some (some (.agg #[.int .i64 0, .int .i64 0, .int .i64 0, .int .i64 0, .int .i64 0]), 5, 40) := by kernel_rfl
theorem info_regR : (Tryd.prog.info? 42).map (fun i => (i.zero, i.size, i.bytes)) = some (some (.agg #[.int .i64 0, .bool false]), 2, 16) := by kernel_rfl

/-- What takeRegion keeps. -/
def RegAns (l : List UInt8) (rs rs' : List (Int × Bool)) (ok : Bool) : Prop := (ok = true ∧ ∃ lg sc, FitG (fun _ _ v => v) (regF sc) l 0 lg ∧ rs' = if rs.length ≤ 6 then rs ++ [(lg, sc)] else rs) ∨ (ok = false ∧ (∀ sc lg, ¬ FitG (fun _ _ v => v) (regF sc) l 0 lg) ∧ rs' = rs)

set_option maxHeartbeats 4000000 in
theorem takeRegion_calls (M : Nat) (rs : List (Int × Bool)) (cs : List Ins) (rv cv : Value) (l : List UInt8) (hl : l.length < 4611686018427387904) (w : World) (hw : LaiE w) (h : R12 M rs cs rv cv w) :
    Calls Tryd.prog 38 #[.pointer (some ⟨M, 0, none⟩), .string (txt l)] w fun e w' => ∃ (ok : Bool) (rs' : List (Int × Bool)) (rv' : Value), e = .returned (.bool ok) ∧ RegAns l rs rs' ok ∧ R12 M rs' cs rv' cv w' ∧ Below M w w' := by
  suffices hP : ∀ P : Ending → World → Prop, (∀ (ok : Bool) (rs' : List (Int × Bool)) (rv' : Value) w', RegAns l rs rs' ok → R12 M rs' cs rv' cv w' → Below M w w' → P (.returned (.bool ok)) w') → Calls Tryd.prog 38 #[.pointer (some ⟨M, 0, none⟩), .string (txt l)] w P from hP _ (fun ok rs' rv' w' h1 h2 h3 => ⟨ok, rs', rv', rfl, h1, h2, h3⟩)
  intro P hP0
  have HP : Hid (∀ (ok : Bool) (rs' : List (Int × Bool)) (rv' : Value) w', RegAns l rs rs' ok → R12 M rs' cs rv' cv w' → Below M w w' → P (.returned (.bool ok)) w') := hP0
  have H : Hid (R12 M rs cs rv cv w) := h
  have CR := hid_tb (readRegion_calls l hl w hw)
  have hM := h.prg.lt
  clear hP0 hw h hl
  obtain ⟨j0, hi, hz0, hz1, hz2⟩ := info_parts info_regR
  have Hj : Hid (Tryd.prog.info? 42 = some j0 ∧ j0.zero = some (.agg #[.int .i64 0, .bool false]) ∧ j0.size = 2 ∧ j0.bytes = 16) := ⟨hi, hz0, hz1, hz2⟩
  clear hi hz0 hz1 hz2
  obtain ⟨tl, Htl⟩ : ∃ y, Hid (txt l = y) := ⟨_, rfl⟩
  rw [Htl.out] at CR ⊢
  obtain ⟨ra, rc, rfl⟩ := own_slice H.out.ownR
  obtain ⟨rl, Hrl⟩ : ∃ x, Hid (rs.length = x) := ⟨_, rfl⟩
  rw [Hrl.out] at H
  go_enter Tryd.func38, Tryd.ntmps38
  go_wp2_with (fail)
  refine CR.out.mono ?_
  rintro e w1 ⟨lg, sc, ok, rfl, hk, m1⟩
  obtain ⟨W, HW⟩ : ∃ w_ : World, Hid (w_ = w1.alloc (.cells #[.int .i64 lg, .bool sc] 42)) := ⟨_, rfl⟩
  have HmW : Hid (More w W) := m1.trans (HW.out ▸ (More.refl _).alloc _ _)
  have HbW : Hid (Blk W w1.heap.size #[.int .i64 lg, .bool sc] 42) := HW.out ▸ Blk.last _ _ _
  have HR1 : Hid (R12 M rs cs (.slice ra rl rc) cv w1) := H.out.up m1
  have HRW : Hid (R12 M rs cs (.slice ra rl rc) cv W) := H.out.up HmW.out
  have HBe : Hid (Below M w W) := Below.mono HmW.out (by omega)
  have hM1 : M < w1.heap.size := by have := m1.size; omega
  have Hk := hid_tb hk
  clear hk m1 CR
  have r0 : w1.cell? ⟨M, 0, none⟩ = some (.slice ra rl rc) := HR1.out.prg.cell rfl
  cases ok with
  | false =>
    have HE := hid_tb (HP.out false rs _ W (.inr ⟨rfl, by
      rcases Hk.out with ⟨q, _⟩ | ⟨_, q⟩
      · cases q
      · exact q, rfl⟩) HRW.out HBe.out)
    rw [HW.out] at HE
    clear HP Hk
    go_wp2
    exact HE.out
  | true =>
    have Hfit : Hid (FitG (fun _ _ v => v) (regF sc) l 0 lg) := by
      rcases Hk.out with ⟨_, q⟩ | ⟨q, _⟩
      · exact q
      · cases q
    clear Hk
    by_cases h6 : rl ≤ 6
    · have h6i : (rl : Int) ≤ 6 := by omega
      have HE : Hid (∀ (rv' : Value) w', R12 M (rs ++ [(lg, sc)]) cs rv' cv w' → Below M w w' → P (.returned (.bool true)) w') := fun rv' w' a b => HP.out true _ rv' w' (.inl ⟨rfl, lg, sc, Hfit.out, by rw [Hrl.out, if_pos h6]⟩) a b
      clear HP
      have Hpc : Hid (W.cell? ⟨M, 0, none⟩ = some (.slice ra rl rc) ∧ Blk W w1.heap.size #[.int .i64 lg, .bool sc] 42) := ⟨HRW.out.prg.cell rfl, HbW.out⟩
      obtain ⟨S, HS⟩ : ∃ S : World → Prop, Hid (∀ w', S w' ↔ (w'.cell? ⟨M, 0, none⟩ = some (.slice ra rl rc) ∧ Blk w' w1.heap.size #[.int .i64 lg, .bool sc] 42)) := ⟨_, fun _ => Iff.rfl⟩
      have j1 : ∀ i : { w' // S w' }, i.val.cell? ⟨M, 0, none⟩ = some (.slice ra rl rc) := fun i => ((HS.out _).1 i.property).1
      have k0 : ∀ i : { w' // S w' }, i.val.cell? ⟨w1.heap.size, 0, none⟩ = some (.int .i64 lg) := fun i => ((HS.out _).1 i.property).2.cell rfl
      have k1 : ∀ i : { w' // S w' }, i.val.cell? ⟨w1.heap.size, 1, none⟩ = some (.bool sc) := fun i => ((HS.out _).1 i.property).2.cell rfl
      have hS : S W.drew := (HS.out _).2 ⟨Hpc.out.1, Hpc.out.2.drew⟩
      have hne : Nonempty { w' // S w' } := ⟨⟨_, hS⟩⟩
      obtain ⟨W2, HW2⟩ : ∃ w_ : World, Hid (w_ = (W.alloc (.cells #[.int .i64 lg, .bool sc] 42)).drew) := ⟨_, rfl⟩
      have Hm4 : Hid (More W W2) := HW2.out ▸ ((More.refl _).alloc _ _).drew
      have HQ : Hid (R12 M rs cs (.slice ra rl rc) cv W2) := HRW.out.up Hm4.out
      have Hown : Hid (W2.ownsRow (M + 1) 42 2 (.slice ra rl rc) rl (celR rs)) := by
        have := HQ.out.ownR
        rw [Hrl.out] at this
        exact this
      have Hnews : Hid (∀ i u, (celR [(lg, sc)])[i]? = some u → W2.cell? ((⟨W.heap.size, 0, none⟩ : Addr).add i) = some u) := by
        have hb : Blk W2 W.heap.size #[.int .i64 lg, .bool sc] 42 := by
          rw [HW2.out]
          exact (Blk.last W #[.int .i64 lg, .bool sc] 42).drew
        exact fun i u hu => World.news_of_block hb i u hu
      have Hsz : Hid (M + 1 ≤ W2.heap.size) := by have := HQ.out.prg.lt; show _ ≤ _; omega
      have Hst : Hid (∀ (w5 : World) (g3 c3 : Nat), W2.grownBy w5 (Value.slice ra rl rc).ownBlock → w5.ownsRow (M + 1) 42 2 (.slice (some ⟨g3, 0, none⟩) (rl + 1) c3) (rl + 1) (celR rs ++ celR [(lg, sc)]) → R12 M (rs ++ [(lg, sc)]) cs (.slice (some ⟨g3, 0, none⟩) (rl + 1) c3) cv (w5.setCell ⟨M, 0, none⟩ (.slice (some ⟨g3, 0, none⟩) (rl + 1) c3)) ∧ Below M w (w5.setCell ⟨M, 0, none⟩ (.slice (some ⟨g3, 0, none⟩) (rl + 1) c3))) := fun w5 g3 c3 gr own => by
        have h1 := HQ.out.addR (j := (lg, sc)) gr (g := g3) (c := c3)
        rw [Hrl.out] at h1
        refine ⟨h1 own, ?_⟩
        have h2 : Below M w W2 := Below.mono (HmW.out.trans Hm4.out) (by omega)
        exact (h2.grown gr (by have := Hsz.out; omega) (fun b hb => by have := (Hown.out.lt b hb).1; omega)).setCell (p := ⟨M, 0, none⟩) (Nat.le_refl _) _
      have Hp2 : Hid (Blk W2 M #[.slice ra rl rc, cv] 55 ∧ Blk W2 w1.heap.size #[.int .i64 lg, .bool sc] 42 ∧ (∀ b, (Value.slice ra rl rc).ownBlock = some b → M + 1 ≤ b ∧ b < w1.heap.size)) := ⟨HQ.out.prg, HbW.out.more Hm4.out, fun b hb => ⟨(Hown.out.lt b hb).1, (HR1.out.ownR.lt b hb).2⟩⟩
      go_wp2_with (fail)
      rw [← HW.out]
      refine wp_region_lastM (S := S) [9, 10] [(0, true), (1, true), (2, true), (3, true), (4, true), (5, true), (6, true), (7, false), (8, false), (9, true), (10, true), (11, true), (12, false)] (by kernel_rfl) (by kernel_rfl) (by kernel_rfl) hS ?_
      iterate 7 (refine wpOrdM_take rfl (by kernel_rfl) (by kernel_rfl) (fun K hK => ?_); go_simp; refine hK _ _ ?_; clear hK K)
      clear j1 k0 k1
      refine wpOrdM_busy rfl (by kernel_rfl) (fun K hK => ?_)
      go_simp
      refine hK _ _ ((HS.out _).2 ⟨((More.refl W).alloc _ _).drew.cell Hpc.out.1, Hpc.out.2.more ((More.refl W).alloc _ _).drew⟩) ?_
      clear hK K
      rw [← HW2.out]
      refine wpOrdM_busy rfl (by kernel_rfl) (fun K hK => ?_)
      refine wp_append_lies _ (.tmp 27) (.tmp 29) 22 rfl (M + 1) 42 j0 (.agg #[.int .i64 0, .bool false]) 2 16 Tryd.underlying22 Hj.out.1 Hj.out.2.1 Hj.out.2.2.1 Hj.out.2.2.2 rfl (by decide) (.slice ra rl rc) rl (celR rs) rfl Hown.out ⟨W.heap.size, 0, none⟩ 1 1 (celR [(lg, sc)]) rfl (by rw [celR_length]; rfl) Hnews.out (celR_one _) (by decide) (by unfold maxLen; omega) (by omega) Hsz.out _ rfl ?_
      intro g3 cap3 w5 own3 gr3 hat3 hlt3
      have B3 : Blk w5 M #[.slice ra rl rc, cv] 55 := (gr3.block _ Hp2.out.1.lt (fun e => by have := Hp2.out.2.2 _ e.symm; omega)).trans Hp2.out.1
      have y1 := B3.cell (j := 0) rfl
      have y2 := B3.frozen 0
      have Hr3 := hid_tb (Hst.out _ _ _ gr3 own3)
      refine hK _ _ ((HS.out _).2 ⟨y1, (gr3.block _ Hp2.out.2.1.lt (fun e => by have := Hp2.out.2.2 _ e.symm; omega)).trans Hp2.out.2.1⟩) ?_
      clear hK K own3 gr3 hat3 hlt3
      iterate 3 (refine wpOrdM_pure rfl (by kernel_rfl) (fun K hK => ?_); go_simp; refine hK _ _ ?_; clear hK K)
      refine wpOrdM_last rfl (by kernel_rfl) (by kernel_rfl) (fun K hK => ?_)
      go_simp
      refine hK _ _ ?_
      clear hK K hne
      refine NoPanic.normal ?_
      have HF := hid_tb (HE.out _ _ Hr3.out.1 Hr3.out.2)
      clear HE Hr3 Hst
      go_wp2
      exact HF.out
    · have h6i : ¬ (rl : Int) ≤ 6 := by omega
      have HE := hid_tb (HP.out true rs _ W (.inl ⟨rfl, lg, sc, Hfit.out, by rw [Hrl.out, if_neg h6]⟩) HRW.out HBe.out)
      rw [HW.out] at HE
      clear HP
      go_wp2
      exact HE.out
/-- What takeIns keeps. -/
def KeepAns (wd l : List UInt8) (cs cs' : List Ins) (ok : Bool) : Prop := (ok = true ∧ ∃ j, InsAns wd l j true ∧ cs' = if cs.length ≤ 8000 then cs ++ [j] else cs) ∨ (ok = false ∧ (∃ j, InsAns wd l j false) ∧ cs' = cs)

set_option maxHeartbeats 4000000 in
theorem takeIns_calls (M : Nat) (rs : List (Int × Bool)) (cs : List Ins) (rv cv : Value) (wd l : List UInt8) (hl : l.length < 4611686018427387904) (w : World) (hw : LaiE w) (h : R12 M rs cs rv cv w) :
    Calls Tryd.prog 39 #[.pointer (some ⟨M, 0, none⟩), .string (txt wd), .string (txt l)] w fun e w' => ∃ (ok : Bool) (cs' : List Ins) (cv' : Value), e = .returned (.bool ok) ∧ KeepAns wd l cs cs' ok ∧ R12 M rs cs' rv cv' w' ∧ Below M w w' := by
  suffices hP : ∀ P : Ending → World → Prop, (∀ (ok : Bool) (cs' : List Ins) (cv' : Value) w', KeepAns wd l cs cs' ok → R12 M rs cs' rv cv' w' → Below M w w' → P (.returned (.bool ok)) w') → Calls Tryd.prog 39 #[.pointer (some ⟨M, 0, none⟩), .string (txt wd), .string (txt l)] w P from hP _ (fun ok cs' cv' w' h1 h2 h3 => ⟨ok, cs', cv', rfl, h1, h2, h3⟩)
  intro P hP0
  have HP : Hid (∀ (ok : Bool) (cs' : List Ins) (cv' : Value) w', KeepAns wd l cs cs' ok → R12 M rs cs' rv cv' w' → Below M w w' → P (.returned (.bool ok)) w') := hP0
  have H : Hid (R12 M rs cs rv cv w) := h
  have CR := hid_tb (readIns_calls wd l hl w hw)
  have hM := h.prg.lt
  clear hP0 hw h hl
  obtain ⟨j0, hi, hz0, hz1, hz2⟩ := info_parts info_insR
  have Hj : Hid (Tryd.prog.info? 49 = some j0 ∧ j0.zero = some (.agg #[.int .i64 0, .int .i64 0, .int .i64 0, .int .i64 0, .int .i64 0]) ∧ j0.size = 5 ∧ j0.bytes = 40) := ⟨hi, hz0, hz1, hz2⟩
  clear hi hz0 hz1 hz2
  obtain ⟨tl, Htl⟩ : ∃ y, Hid (txt l = y) := ⟨_, rfl⟩
  obtain ⟨td, Htd⟩ : ∃ y, Hid (txt wd = y) := ⟨_, rfl⟩
  rw [Htl.out, Htd.out] at CR ⊢
  obtain ⟨ca, cc, rfl⟩ := own_slice H.out.ownC
  obtain ⟨cl, Hcl⟩ : ∃ x, Hid (cs.length = x) := ⟨_, rfl⟩
  rw [Hcl.out] at H
  go_enter Tryd.func39, Tryd.ntmps39
  go_wp2_with (fail)
  refine CR.out.mono ?_
  rintro e w1 ⟨j, ok, rfl, hk, m1⟩
  have Hk := hid_tb hk
  obtain ⟨op, a, b, c, n⟩ := j
  dsimp only
  obtain ⟨W, HW⟩ : ∃ w_ : World, Hid (w_ = w1.alloc (.cells #[.int .i64 op, .int .i64 a, .int .i64 b, .int .i64 c, .int .i64 n] 49)) := ⟨_, rfl⟩
  have HmW : Hid (More w W) := m1.trans (HW.out ▸ (More.refl _).alloc _ _)
  have HbW : Hid (Blk W w1.heap.size #[.int .i64 op, .int .i64 a, .int .i64 b, .int .i64 c, .int .i64 n] 49) := HW.out ▸ Blk.last _ _ _
  have HR1 : Hid (R12 M rs cs rv (.slice ca cl cc) w1) := H.out.up m1
  have HRW : Hid (R12 M rs cs rv (.slice ca cl cc) W) := H.out.up HmW.out
  have HBe : Hid (Below M w W) := Below.mono HmW.out (by omega)
  have hM1 : M < w1.heap.size := by have := m1.size; omega
  clear hk m1 CR
  have r0 : w1.cell? ⟨M, 1, none⟩ = some (.slice ca cl cc) := HR1.out.prg.cell rfl
  cases ok with
  | false =>
    have HE := hid_tb (HP.out false cs _ W (.inr ⟨rfl, ⟨_, Hk.out⟩, rfl⟩) HRW.out HBe.out)
    rw [HW.out] at HE
    clear HP Hk
    go_wp2
    exact HE.out
  | true =>
    by_cases h6 : cl ≤ 8000
    · have h6i : (cl : Int) ≤ 8000 := by omega
      have HE : Hid (∀ (cv' : Value) w', R12 M rs (cs ++ [⟨op, a, b, c, n⟩]) rv cv' w' → Below M w w' → P (.returned (.bool true)) w') := fun cv' w' x y => HP.out true _ cv' w' (.inl ⟨rfl, _, Hk.out, by rw [Hcl.out, if_pos h6]⟩) x y
      clear HP
      have Hpc : Hid (W.cell? ⟨M, 1, none⟩ = some (.slice ca cl cc) ∧ Blk W w1.heap.size #[.int .i64 op, .int .i64 a, .int .i64 b, .int .i64 c, .int .i64 n] 49) := ⟨HRW.out.prg.cell rfl, HbW.out⟩
      obtain ⟨S, HS⟩ : ∃ S : World → Prop, Hid (∀ w', S w' ↔ (w'.cell? ⟨M, 1, none⟩ = some (.slice ca cl cc) ∧ Blk w' w1.heap.size #[.int .i64 op, .int .i64 a, .int .i64 b, .int .i64 c, .int .i64 n] 49)) := ⟨_, fun _ => Iff.rfl⟩
      have j1 : ∀ i : { w' // S w' }, i.val.cell? ⟨M, 1, none⟩ = some (.slice ca cl cc) := fun i => ((HS.out _).1 i.property).1
      have k0 : ∀ i : { w' // S w' }, i.val.cell? ⟨w1.heap.size, 0, none⟩ = some (.int .i64 op) := fun i => ((HS.out _).1 i.property).2.cell rfl
      have k1 : ∀ i : { w' // S w' }, i.val.cell? ⟨w1.heap.size, 1, none⟩ = some (.int .i64 a) := fun i => ((HS.out _).1 i.property).2.cell rfl
      have k2 : ∀ i : { w' // S w' }, i.val.cell? ⟨w1.heap.size, 2, none⟩ = some (.int .i64 b) := fun i => ((HS.out _).1 i.property).2.cell rfl
      have k3 : ∀ i : { w' // S w' }, i.val.cell? ⟨w1.heap.size, 3, none⟩ = some (.int .i64 c) := fun i => ((HS.out _).1 i.property).2.cell rfl
      have k4 : ∀ i : { w' // S w' }, i.val.cell? ⟨w1.heap.size, 4, none⟩ = some (.int .i64 n) := fun i => ((HS.out _).1 i.property).2.cell rfl
      have hS : S W.drew := (HS.out _).2 ⟨Hpc.out.1, Hpc.out.2.drew⟩
      have hne : Nonempty { w' // S w' } := ⟨⟨_, hS⟩⟩
      obtain ⟨W2, HW2⟩ : ∃ w_ : World, Hid (w_ = (W.alloc (.cells #[.int .i64 op, .int .i64 a, .int .i64 b, .int .i64 c, .int .i64 n] 49)).drew) := ⟨_, rfl⟩
      have Hm4 : Hid (More W W2) := HW2.out ▸ ((More.refl _).alloc _ _).drew
      have HQ : Hid (R12 M rs cs rv (.slice ca cl cc) W2) := HRW.out.up Hm4.out
      have Hown : Hid (W2.ownsRow (M + 1) 49 5 (.slice ca cl cc) cl (celI cs)) := by
        have := HQ.out.ownC
        rw [Hcl.out] at this
        exact this
      have Hnews : Hid (∀ i u, (celI [⟨op, a, b, c, n⟩])[i]? = some u → W2.cell? ((⟨W.heap.size, 0, none⟩ : Addr).add i) = some u) := by
        have hb : Blk W2 W.heap.size #[.int .i64 op, .int .i64 a, .int .i64 b, .int .i64 c, .int .i64 n] 49 := by
          rw [HW2.out]
          exact (Blk.last W #[.int .i64 op, .int .i64 a, .int .i64 b, .int .i64 c, .int .i64 n] 49).drew
        exact fun i u hu => World.news_of_block hb i u hu
      have Hsz : Hid (M + 1 ≤ W2.heap.size) := by have := HQ.out.prg.lt; show _ ≤ _; omega
      have Hst : Hid (∀ (w5 : World) (g3 c3 : Nat), W2.grownBy w5 (Value.slice ca cl cc).ownBlock → w5.ownsRow (M + 1) 49 5 (.slice (some ⟨g3, 0, none⟩) (cl + 1) c3) (cl + 1) (celI cs ++ celI [⟨op, a, b, c, n⟩]) → R12 M rs (cs ++ [⟨op, a, b, c, n⟩]) rv (.slice (some ⟨g3, 0, none⟩) (cl + 1) c3) (w5.setCell ⟨M, 1, none⟩ (.slice (some ⟨g3, 0, none⟩) (cl + 1) c3)) ∧ Below M w (w5.setCell ⟨M, 1, none⟩ (.slice (some ⟨g3, 0, none⟩) (cl + 1) c3))) := fun w5 g3 c3 gr own => by
        have h1 := HQ.out.addC (j := ⟨op, a, b, c, n⟩) gr (g := g3) (c := c3)
        rw [Hcl.out] at h1
        refine ⟨h1 own, ?_⟩
        have h2 : Below M w W2 := Below.mono (HmW.out.trans Hm4.out) (by omega)
        exact (h2.grown gr (by have := Hsz.out; omega) (fun b hb => by have := (Hown.out.lt b hb).1; omega)).setCell (p := ⟨M, 1, none⟩) (Nat.le_refl _) _
      have Hp2 : Hid (Blk W2 M #[rv, .slice ca cl cc] 55 ∧ Blk W2 w1.heap.size #[.int .i64 op, .int .i64 a, .int .i64 b, .int .i64 c, .int .i64 n] 49 ∧ (∀ b, (Value.slice ca cl cc).ownBlock = some b → M + 1 ≤ b ∧ b < w1.heap.size)) := ⟨HQ.out.prg, HbW.out.more Hm4.out, fun b hb => ⟨(Hown.out.lt b hb).1, (HR1.out.ownC.lt b hb).2⟩⟩
      go_wp2_with (fail)
      rw [← HW.out]
      refine wp_region_lastM (S := S) [9, 10] [(0, true), (1, true), (2, true), (3, true), (4, true), (5, true), (6, true), (7, false), (8, false), (9, true), (10, true), (11, true), (12, false)] (by kernel_rfl) (by kernel_rfl) (by kernel_rfl) hS ?_
      iterate 7 (refine wpOrdM_take rfl (by kernel_rfl) (by kernel_rfl) (fun K hK => ?_); go_simp; refine hK _ _ ?_; clear hK K)
      clear j1 k0 k1 k2 k3 k4
      refine wpOrdM_busy rfl (by kernel_rfl) (fun K hK => ?_)
      go_simp
      refine hK _ _ ((HS.out _).2 ⟨((More.refl W).alloc _ _).drew.cell Hpc.out.1, Hpc.out.2.more ((More.refl W).alloc _ _).drew⟩) ?_
      clear hK K
      rw [← HW2.out]
      refine wpOrdM_busy rfl (by kernel_rfl) (fun K hK => ?_)
      refine wp_append_lies _ (.tmp 30) (.tmp 32) 23 rfl (M + 1) 49 j0 (.agg #[.int .i64 0, .int .i64 0, .int .i64 0, .int .i64 0, .int .i64 0]) 5 40 Tryd.underlying23 Hj.out.1 Hj.out.2.1 Hj.out.2.2.1 Hj.out.2.2.2 rfl (by decide) (.slice ca cl cc) cl (celI cs) rfl Hown.out ⟨W.heap.size, 0, none⟩ 1 1 (celI [⟨op, a, b, c, n⟩]) rfl (by rw [celI_length]; rfl) Hnews.out (celI_one _) (by decide) (by unfold maxLen; omega) (by omega) Hsz.out _ rfl ?_
      intro g3 cap3 w5 own3 gr3 hat3 hlt3
      have B3 : Blk w5 M #[rv, .slice ca cl cc] 55 := (gr3.block _ Hp2.out.1.lt (fun e => by have := Hp2.out.2.2 _ e.symm; omega)).trans Hp2.out.1
      have y1 := B3.cell (j := 1) rfl
      have y2 := B3.frozen 1
      have Hr3 := hid_tb (Hst.out _ _ _ gr3 own3)
      refine hK _ _ ((HS.out _).2 ⟨y1, (gr3.block _ Hp2.out.2.1.lt (fun e => by have := Hp2.out.2.2 _ e.symm; omega)).trans Hp2.out.2.1⟩) ?_
      clear hK K own3 gr3 hat3 hlt3
      iterate 3 (refine wpOrdM_pure rfl (by kernel_rfl) (fun K hK => ?_); go_simp; refine hK _ _ ?_; clear hK K)
      refine wpOrdM_last rfl (by kernel_rfl) (by kernel_rfl) (fun K hK => ?_)
      go_simp
      refine hK _ _ ?_
      clear hK K hne
      refine NoPanic.normal ?_
      have HF := hid_tb (HE.out _ _ Hr3.out.1 Hr3.out.2)
      clear HE Hr3 Hst
      go_wp2
      exact HF.out
    · have h6i : ¬ (cl : Int) ≤ 8000 := by omega
      have HE := hid_tb (HP.out true cs _ W (.inl ⟨rfl, _, Hk.out, by rw [Hcl.out, if_neg h6]⟩) HRW.out HBe.out)
      rw [HW.out] at HE
      clear HP
      go_wp2
      exact HE.out
/-- A reader that keeps no more than it needs. -/
def RdrL (M : Nat) (RS : List (Int × Bool)) (CS : List Ins) (w : World) : Prop := ∃ rv cv, R12 M (RS.take 7) (CS.take 8001) rv cv w
theorem RdrL.up {M : Nat} {RS : List (Int × Bool)} {CS : List Ins} {w w' : World} (h : RdrL M RS CS w) (m : More w w') : RdrL M RS CS w' := by
  obtain ⟨rv, cv, h⟩ := h
  exact ⟨rv, cv, h.up m⟩
theorem take_snoc {α : Type} (n : Nat) (l : List α) (x : α) : (if (l.take (n + 1)).length ≤ n then l.take (n + 1) ++ [x] else l.take (n + 1)) = (l ++ [x]).take (n + 1) := by
  by_cases h : l.length ≤ n
  · rw [if_pos (by simp; omega), List.take_of_length_le (by omega), List.take_of_length_le (by simp; omega)]
  · rw [if_neg (by simp; omega), List.take_append_of_le_length (by omega)]
theorem cut_split (l : List UInt8) : ∃ ws, splitL 32 l = cutA l :: ws ∧ cutB l = unw ws ∧ (∀ y ∈ ws, ¬ (32 : UInt8) ∈ y) := by
  obtain ⟨x, ws, h1, h2, h3, h4⟩ := flat_split 32 l
  have h2' : l = x ++ unw ws := h2
  obtain ⟨c1, c2⟩ := cut_unw x ws h3
  rw [← h2'] at c1 c2
  exact ⟨ws, by rw [c1]; exact h1, c2, h4⟩
/-- What a line more comes to. -/
def TakeAns (l : List UInt8) (RS : List (Int × Bool)) (CS : List Ins) (RS' : List (Int × Bool)) (CS' : List Ins) (ok : Bool) : Prop := (ok = true ∧ LineTo l RS CS RS' CS') ∨ (ok = false ∧ (∀ rs' cs', ¬ LineTo l RS CS rs' cs') ∧ RS' = RS ∧ CS' = CS)
theorem take_reg {l : List UInt8} {RS : List (Int × Bool)} {rs' : List (Int × Bool)} {ok : Bool} (hx : cutA l = rgnL) (h : RegAns (cutB l) (RS.take 7) rs' ok) : ∃ RS', TakeAns l RS [] RS' [] ok ∧ rs' = RS'.take 7 := by
  obtain ⟨ws, e1, e2, e3⟩ := cut_split l
  rw [e2] at h
  rcases h with ⟨rfl, lg, sc, f, rfl⟩ | ⟨rfl, n, rfl⟩
  · refine ⟨RS ++ [(lg, sc)], .inl ⟨rfl, .inl ⟨lg, sc, ?_, rfl, rfl, rfl⟩⟩, take_snoc 6 RS (lg, sc)⟩
    rw [e1]
    exact (line_reg e3 (s := 0)).2 ⟨hx, f⟩
  · refine ⟨RS, .inr ⟨rfl, fun rs' cs' q => ?_, rfl, rfl⟩, rfl⟩
    rcases q with ⟨lg, sc, q, _⟩ | ⟨j, q, _⟩
    · rw [e1] at q
      exact n sc lg ((line_reg e3).1 q).2
    · rw [e1] at q
      exact line_not_region q (by rw [hx]; rfl)
theorem take_late {l : List UInt8} {RS : List (Int × Bool)} {CS : List Ins} (hx : cutA l = rgnL) (hc : ¬ CS = []) : TakeAns l RS CS RS CS false := by
  obtain ⟨ws, e1, e2, e3⟩ := cut_split l
  refine .inr ⟨rfl, fun rs' cs' q => ?_, rfl, rfl⟩
  rcases q with ⟨lg, sc, _, q, _⟩ | ⟨j, q, _⟩
  · exact hc q
  · rw [e1] at q
    exact line_not_region q (by rw [hx]; rfl)
theorem take_ins {l : List UInt8} {RS : List (Int × Bool)} {CS : List Ins} {cs' : List Ins} {ok : Bool} (hx : ¬ cutA l = rgnL) (h : KeepAns (cutA l) (cutB l) (CS.take 8001) cs' ok) : ∃ CS', TakeAns l RS CS RS CS' ok ∧ cs' = CS'.take 8001 := by
  obtain ⟨ws, e1, e2, e3⟩ := cut_split l
  rw [e2] at h
  rcases h with ⟨rfl, j, k, rfl⟩ | ⟨rfl, ⟨j, k⟩, rfl⟩
  · refine ⟨CS ++ [j], .inl ⟨rfl, .inr ⟨j, ?_, rfl, rfl⟩⟩, take_snoc 8000 CS j⟩
    rw [e1, line_kind e3]
    rcases k with ⟨_, k⟩ | ⟨k, _⟩
    · exact k
    · cases k
  · refine ⟨CS, .inr ⟨rfl, fun rs' cs' q => ?_, rfl, rfl⟩, rfl⟩
    rcases q with ⟨lg, sc, q, _⟩ | ⟨j', q, _⟩
    · rw [e1] at q
      exact hx ((line_reg e3 (s := 0)).1 q).1
    · rw [e1, line_kind e3] at q
      obtain ⟨y, hy, e, q⟩ := q
      rcases k with ⟨k, _⟩ | ⟨_, k⟩
      · cases k
      · exact k y hy e j' q

set_option maxHeartbeats 2000000 in
theorem take_calls (M : Nat) (RS : List (Int × Bool)) (CS : List Ins) (l : List UInt8) (hl : l.length < 4611686018427387904) (w : World) (hw : LaiE w) (h : RdrL M RS CS w) :
    Calls Tryd.prog 22 #[.pointer (some ⟨M, 0, none⟩), .string (txt l)] w fun e w' => ∃ (ok : Bool) (RS' : List (Int × Bool)) (CS' : List Ins), e = .returned (.bool ok) ∧ TakeAns l RS CS RS' CS' ok ∧ RdrL M RS' CS' w' ∧ Below M w w' := by
  suffices hP : ∀ P : Ending → World → Prop, (∀ (ok : Bool) (RS' : List (Int × Bool)) (CS' : List Ins) w', TakeAns l RS CS RS' CS' ok → RdrL M RS' CS' w' → Below M w w' → P (.returned (.bool ok)) w') → Calls Tryd.prog 22 #[.pointer (some ⟨M, 0, none⟩), .string (txt l)] w P from hP _ (fun ok RS' CS' w' h1 h2 h3 => ⟨ok, RS', CS', rfl, h1, h2, h3⟩)
  intro P hP0
  have HP : Hid (∀ (ok : Bool) (RS' : List (Int × Bool)) (CS' : List Ins) w', TakeAns l RS CS RS' CS' ok → RdrL M RS' CS' w' → Below M w w' → P (.returned (.bool ok)) w') := hP0
  obtain ⟨rv, cv, h⟩ := h
  have H : Hid (R12 M (RS.take 7) (CS.take 8001) rv cv w) := h
  have HL : Hid (LaiE w) := hw
  have hM := h.prg.lt
  have CC := hid_tb (cutWord_calls l hl w)
  have hbl : (cutB l).length < 4611686018427387904 := by have := (cutB_len l).1; omega
  have CR : Hid (∀ w1, More w w1 → Calls Tryd.prog 38 #[.pointer (some ⟨M, 0, none⟩), .string (txt (cutB l))] w1 fun e w' => ∃ (ok : Bool) (rs' : List (Int × Bool)) (rv' : Value), e = .returned (.bool ok) ∧ RegAns (cutB l) (RS.take 7) rs' ok ∧ R12 M rs' (CS.take 8001) rv' cv w' ∧ Below M w1 w') := fun w1 m => takeRegion_calls M _ _ rv cv (cutB l) hbl w1 (HL.out.more m) (H.out.up m)
  have CT : Hid (∀ w1, More w w1 → Calls Tryd.prog 39 #[.pointer (some ⟨M, 0, none⟩), .string (txt (cutA l)), .string (txt (cutB l))] w1 fun e w' => ∃ (ok : Bool) (cs' : List Ins) (cv' : Value), e = .returned (.bool ok) ∧ KeepAns (cutA l) (cutB l) (CS.take 8001) cs' ok ∧ R12 M (RS.take 7) cs' rv cv' w' ∧ Below M w1 w') := fun w1 m => takeIns_calls M _ _ rv cv (cutA l) (cutB l) hbl w1 (HL.out.more m) (H.out.up m)
  have HA : Hid (cutA l = rgnL ∨ ¬ cutA l = rgnL) := Classical.em _
  have hal : (txt (cutA l)).toList = cutA l := ByteArray.toList_mk _
  obtain ⟨ca, cc, rfl⟩ := own_slice H.out.ownC
  have Hz : Hid ((CS.take 8001).length = 0 ↔ CS = []) := by
    show _ ↔ _
    rw [List.length_eq_zero_iff, List.take_eq_nil_iff]
    simp
  clear hP0 hw h hl hbl
  obtain ⟨cl, Hcl⟩ : ∃ x, Hid ((CS.take 8001).length = x) := ⟨_, rfl⟩
  rw [Hcl.out] at H CR Hz
  obtain ⟨tl, Htl⟩ : ∃ y, Hid (txt l = y) := ⟨_, rfl⟩
  obtain ⟨ta, Hta⟩ : ∃ y, Hid (txt (cutA l) = y) := ⟨_, rfl⟩
  obtain ⟨tb, Htb⟩ : ∃ y, Hid (txt (cutB l) = y) := ⟨_, rfl⟩
  rw [Htl.out] at CC ⊢
  rw [Hta.out] at CC CT hal
  rw [Htb.out] at CC CT CR
  go_enter Tryd.func22, Tryd.ntmps22
  go_wp2_with (fail)
  refine CC.out.mono ?_
  rintro e w1 ⟨rfl, m1⟩
  have Hm1 : Hid (More w w1) := m1
  have HR1 : Hid (R12 M (RS.take 7) (CS.take 8001) rv (.slice ca cl cc) w1) := H.out.up m1
  have HB1 : Hid (Below M w w1) := Below.mono m1 (by omega)
  have r1 : w1.cell? ⟨M, 1, none⟩ = some (.slice ca cl cc) := HR1.out.prg.cell rfl
  clear m1 CC
  rcases HA.out with hx | hx
  · have Hx : Hid (cutA l = rgnL) := hx
    have q1 : ta.toList = [114, 101, 103, 105, 111, 110] := by rw [hal]; exact hx
    clear hx hal CT
    by_cases hc0 : cl = 0
    · subst hc0
      have hCS : CS = [] := Hz.out.1 rfl
      have C2 := hid_tb (CR.out w1 Hm1.out)
      clear CR
      go_wp2_with (fail)
      refine C2.out.mono ?_
      rintro e w2 ⟨ok, rs', rv', rfl, h1, h2, b2⟩
      obtain ⟨RS', h3, h4⟩ := take_reg Hx.out h1
      have HE := hid_tb (HP.out ok RS' [] w2 (by rw [hCS]; exact h3) ⟨rv', _, by rw [← h4]; rw [hCS] at h2; exact h2⟩ (HB1.out.trans b2))
      clear h1 h2 h3 h4 b2 C2 HP
      go_wp2
      exact HE.out
    · have hci : ¬ (cl : Int) = 0 := by omega
      have q2 : ((cl : Int) == 0) = false := by simpa using hci
      have HE := hid_tb (HP.out false RS CS w1 (take_late Hx.out (fun e => hc0 (Hz.out.2 e))) ⟨_, _, HR1.out⟩ HB1.out)
      clear CR HP
      go_wp2
      exact HE.out
  · have Hx : Hid (¬ cutA l = rgnL) := hx
    have q1 : ¬ ta.toList = [114, 101, 103, 105, 111, 110] := by rw [hal]; exact hx
    have q2 : (ta.toList == [114, 101, 103, 105, 111, 110]) = false := by simpa using q1
    have C2 := hid_tb (CT.out w1 Hm1.out)
    clear hx hal CT CR
    go_wp2_with (fail)
    refine C2.out.mono ?_
    rintro e w2 ⟨ok, cs', cv', rfl, h1, h2, b2⟩
    obtain ⟨CS', h3, h4⟩ := take_ins (RS := RS) Hx.out h1
    have HE := hid_tb (HP.out ok RS CS' w2 h3 ⟨_, cv', by rw [← h4]; exact h2⟩ (HB1.out.trans b2))
    clear h1 h2 h3 h4 b2 C2 HP
    go_wp2
    exact HE.out
theorem index_at (b : UInt8) : ∀ l : List UInt8, (¬ b ∈ l ∧ Lib.indexByte l b = -1) ∨ (∃ x y, l = x ++ b :: y ∧ ¬ b ∈ x ∧ Lib.indexByte l b = x.length)
  | [] => .inl ⟨by simp, rfl⟩
  | c :: l => by
    rw [Lib.indexByte]
    by_cases e : c = b
    · subst e
      right
      exact ⟨[], l, rfl, by simp, by simp⟩
    · rcases index_at b l with ⟨h1, h2⟩ | ⟨x, y, h1, h2, h3⟩
      · left
        refine ⟨fun q => ?_, by simp [e, h2]⟩
        rcases List.mem_cons.1 q with q | q
        · exact e q.symm
        · exact h1 q
      · right
        refine ⟨c :: x, y, by rw [h1]; rfl, fun q => ?_, ?_⟩
        · rcases List.mem_cons.1 q with q | q
          · exact e q.symm
          · exact h2 q
        · rw [h3]
          have : ¬ (x.length : Int) = -1 := by omega
          simp [e, this]
/-- What is cut at a byte. -/
def CutAns (l : List UInt8) (b : UInt8) (d1 d2 : ByteArray) (ok : Bool) : Prop := (ok = true ∧ ∃ x y, l = x ++ b :: y ∧ ¬ b ∈ x ∧ d1 = txt x ∧ d2 = txt y) ∨ (ok = false ∧ ¬ b ∈ l ∧ d1 = txt l ∧ d2 = ByteArray.empty)

set_option maxHeartbeats 1000000 in
theorem cut_lite (l : List UInt8) (hl : l.length < 4611686018427387904) (b : UInt8) (w : World) : Calls Tryd.prog 36 #[.string (txt l), .string ⟨#[b]⟩] w fun e w' => ∃ (d1 d2 : ByteArray) (ok : Bool), e = .returned (.tuple #[.string d1, .string d2, .bool ok]) ∧ CutAns l b d1 d2 ok ∧ More w w' := by
  suffices hP : ∀ P : Ending → World → Prop, (∀ (d1 d2 : ByteArray) (ok : Bool) w', CutAns l b d1 d2 ok → More w w' → P (.returned (.tuple #[.string d1, .string d2, .bool ok])) w') → Calls Tryd.prog 36 #[.string (txt l), .string ⟨#[b]⟩] w P from hP _ (fun d1 d2 ok w' h m => ⟨d1, d2, ok, rfl, h, m⟩)
  intro P hP0
  have HP : Hid (∀ (d1 d2 : ByteArray) (ok : Bool) w', CutAns l b d1 d2 ok → More w w' → P (.returned (.tuple #[.string d1, .string d2, .bool ok])) w') := hP0
  have CI : Hid (Calls Tryd.prog 49 #[.string (txt l), .string ⟨#[b]⟩] w fun e w' => e = .returned (.int .i64 (Lib.indexByte l b)) ∧ w' = w) := Any.stringslite_Index_one Tryd.lays219 (txt l) b w
  clear hP0
  have hbs : (⟨#[b]⟩ : ByteArray).size = 1 := rfl
  obtain ⟨bs, Hbs⟩ : ∃ x, Hid ((⟨#[b]⟩ : ByteArray) = x) := ⟨_, rfl⟩
  rw [Hbs.out] at CI hbs ⊢
  rcases index_at b l with ⟨h1, h2⟩ | ⟨x, y, h1, h2, h3⟩
  · have HE := hid_tb (fun w' m => HP.out (txt l) ByteArray.empty false w' (.inr ⟨rfl, h1, rfl, rfl⟩) m)
    obtain ⟨ss, Hss⟩ : ∃ x, Hid (txt l = x) := ⟨_, rfl⟩
    rw [Hss.out] at CI HE ⊢
    rw [h2] at CI
    clear HP h1 h2
    go_enter Tryd.func36, Tryd.ntmps36
    go_wp2_with (fail)
    refine CI.out.mono ?_
    rintro e w' ⟨rfl, rfl⟩
    clear CI
    have HF := hid_tb (HE.out w' (More.refl _))
    clear HE
    go_wp2
    refine bodyPost_ret (v := .tuple #[.string ss, .string ByteArray.empty, .bool false]) (by simp [results, Tryd.results36, go_sem, *]; try rfl) rfl ?_
    exact HF.out
  · have HE := hid_tb (fun w' m => HP.out (txt x) (txt y) true w' (.inl ⟨rfl, x, y, h1, h2, rfl, rfl⟩) m)
    rw [h3] at CI
    have hsz := txt_size l
    have e1 := (txt_extract x (b :: y)).1
    have e2 := (txt_extract (x ++ [b]) y).2
    rw [← h1] at e1
    rw [show x ++ [b] ++ y = l by rw [h1]; simp, show (x ++ [b]).length = x.length + 1 by simp] at e2
    have hxl : x.length + 1 ≤ l.length := by rw [h1]; simp
    obtain ⟨ss, Hss⟩ : ∃ x, Hid (txt l = x) := ⟨_, rfl⟩
    obtain ⟨tx, Htx⟩ : ∃ z, Hid (txt x = z) := ⟨_, rfl⟩
    obtain ⟨ty, Hty⟩ : ∃ z, Hid (txt y = z) := ⟨_, rfl⟩
    obtain ⟨k, Hk⟩ : ∃ z, Hid (x.length = z) := ⟨_, rfl⟩
    obtain ⟨n, Hn⟩ : ∃ z, Hid (l.length = z) := ⟨_, rfl⟩
    rw [Hss.out] at CI e1 e2 hsz ⊢
    rw [Htx.out] at HE e1
    rw [Hty.out] at HE e2
    rw [Hk.out] at CI e1 e2 hxl
    rw [Hn.out] at e2 hsz hxl hl
    have h0 : (0 : Int) ≤ k := by omega
    have hk : (k : Int) ≤ n := by omega
    have hk' : k ≤ n := by omega
    have hk1 : wrap64 ((k : Int) + 1) = (k : Int) + 1 := by unfold wrap64; omega
    have hk2 : (k : Int) + 1 ≤ n := by omega
    have hk3 : (0 : Int) ≤ (k : Int) + 1 := by omega
    have hk4 : ((k : Int) + 1).toNat = k + 1 := by omega
    clear HP h1 h2 h3 Hss Htx Hty Hk Hn
    go_enter Tryd.func36, Tryd.ntmps36
    go_wp2_with (fail)
    refine CI.out.mono ?_
    rintro e w' ⟨rfl, rfl⟩
    clear CI
    have HF := hid_tb (HE.out w'.drew (More.refl _).drew)
    clear HE
    go_wp2
    go_region
    all_goals
      go_wp2
      refine bodyPost_ret (v := .tuple #[.string tx, .string ty, .bool true]) (by simp [results, Tryd.results36, go_sem, *]) rfl ?_
      exact HF.out

set_option maxHeartbeats 1000000 in
theorem cut_calls (l : List UInt8) (hl : l.length < 4611686018427387904) (b : UInt8) (w : World) : Calls Tryd.prog 21 #[.string (txt l), .string ⟨#[b]⟩] w fun e w' => ∃ (d1 d2 : ByteArray) (ok : Bool), e = .returned (.tuple #[.string d1, .string d2, .bool ok]) ∧ CutAns l b d1 d2 ok ∧ More w w' := by
  suffices hP : ∀ P : Ending → World → Prop, (∀ (d1 d2 : ByteArray) (ok : Bool) w', CutAns l b d1 d2 ok → More w w' → P (.returned (.tuple #[.string d1, .string d2, .bool ok])) w') → Calls Tryd.prog 21 #[.string (txt l), .string ⟨#[b]⟩] w P from hP _ (fun d1 d2 ok w' h m => ⟨d1, d2, ok, rfl, h, m⟩)
  intro P hP0
  have HP : Hid (∀ (d1 d2 : ByteArray) (ok : Bool) w', CutAns l b d1 d2 ok → More w w' → P (.returned (.tuple #[.string d1, .string d2, .bool ok])) w') := hP0
  have CI := hid_tb (cut_lite l hl b w)
  clear hP0
  obtain ⟨bs, Hbs⟩ : ∃ x, Hid ((⟨#[b]⟩ : ByteArray) = x) := ⟨_, rfl⟩
  obtain ⟨ss, Hss⟩ : ∃ x, Hid (txt l = x) := ⟨_, rfl⟩
  rw [Hbs.out, Hss.out] at CI ⊢
  go_enter Tryd.func21, Tryd.ntmps21
  go_wp2_with (fail)
  refine CI.out.mono ?_
  rintro e w1 ⟨d1, d2, ok, rfl, h, m⟩
  have HE := hid_tb (HP.out d1 d2 ok w1 h m)
  clear CI HP h m
  go_wp2
  refine bodyPost_ret (v := .tuple #[.string d1, .string d2, .bool ok]) (by simp [results, Tryd.results21, go_sem, *]) rfl ?_
  exact HE.out
end
end Go.Proofs.YtoedgnedallhnaaDoor
