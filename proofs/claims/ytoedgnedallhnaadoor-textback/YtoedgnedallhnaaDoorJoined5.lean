/-
  The texts TcParse, TxKeep, one behind the other, with what is used of them.
-/
import Derived.Test.YtoedgnedallhnaaDoorJoined4
import Derived.Test.YtoedgnedallhnaaDoorJoined3
import Derived.Test.YtoedgnedallhnaaDoorJoined2
namespace Go.Proofs.YtoedgnedallhnaaDoor
section
open Go.RowKit
set_option linter.unusedSimpArgs false
set_option linter.unusedVariables false
set_option maxRecDepth 8000
/-- It is a program. -/
theorem R12.pin {M : Nat} {rs : List (Int × Bool)} {cs : List Ins} {rv cv : Value} {wr : World} (h : R12 M rs cs rv cv wr) : ∃ l : Loc, rv = .slice l.ra rs.length l.rc ∧ cv = .slice l.ca cs.length l.cc ∧ PIn wr (prgOf rs cs) l ∧ (0 < rs.length → M + 1 ≤ l.rb) ∧ (0 < cs.length → M + 1 ≤ l.cb) := by
  have hR : ∃ (ra : Option Addr) (rb rc : Nat), rv = .slice ra rs.length rc ∧ (0 < rs.length → ra = some ⟨rb, 0, none⟩ ∧ M + 1 ≤ rb) ∧ RegsAt wr rb 0 rs.length (prgOf rs cs).log (prgOf rs cs).sec := by
    by_cases h0 : 0 < rs.length
    · obtain ⟨g, c, hv, hlo, _⟩ := h.ownR.form h0
      subst hv
      refine ⟨_, g, c, rfl, fun _ => ⟨rfl, hlo⟩, fun i hi => ?_⟩
      have e := celR_at rs i _ (List.getElem?_eq_getElem hi)
      have e1 : (prgOf rs cs).log i = rs[i].1 := by simp [prgOf, List.getD_eq_getElem?_getD, List.getElem?_eq_getElem hi]
      have e2 : (prgOf rs cs).sec i = rs[i].2 := by simp [prgOf, List.getD_eq_getElem?_getD, List.getElem?_eq_getElem hi]
      rw [e1, e2]
      simp only [Nat.zero_add]
      exact ⟨by rw [World.ownsRow.cellAt h.ownR _ (by omega)]; exact e.1, by rw [World.ownsRow.cellAt h.ownR _ (by omega)]; exact e.2⟩
    · rcases h.ownR.2 with ⟨rfl, e⟩ | ⟨g, cap, _, rfl, _⟩
      · exact ⟨none, 0, 0, by rw [e], fun h => absurd h h0, fun i hi => absurd (show 0 < rs.length by omega) h0⟩
      · exact ⟨_, 0, _, rfl, fun h => absurd h h0, fun i hi => absurd (show 0 < rs.length by omega) h0⟩
  have hC : ∃ (ca : Option Addr) (cb cc : Nat), cv = .slice ca cs.length cc ∧ (0 < cs.length → ca = some ⟨cb, 0, none⟩ ∧ M + 1 ≤ cb) ∧ CodeAt wr cb 0 cs.length (prgOf rs cs).ins := by
    by_cases h0 : 0 < cs.length
    · obtain ⟨g, c, hv, hlo, _⟩ := h.ownC.form h0
      subst hv
      refine ⟨_, g, c, rfl, fun _ => ⟨rfl, hlo⟩, fun i hi => ?_⟩
      have e := celI_at cs i _ (List.getElem?_eq_getElem hi)
      have e1 : (prgOf rs cs).ins i = cs[i] := by simp [prgOf, List.getD_eq_getElem?_getD, List.getElem?_eq_getElem hi]
      rw [e1]
      simp only [Nat.zero_add]
      exact ⟨by rw [World.ownsRow.cellAt h.ownC _ (by omega)]; exact e.1, by rw [World.ownsRow.cellAt h.ownC _ (by omega)]; exact e.2.1, by rw [World.ownsRow.cellAt h.ownC _ (by omega)]; exact e.2.2.1, by rw [World.ownsRow.cellAt h.ownC _ (by omega)]; exact e.2.2.2.1, by rw [World.ownsRow.cellAt h.ownC _ (by omega)]; exact e.2.2.2.2⟩
    · rcases h.ownC.2 with ⟨rfl, e⟩ | ⟨g, cap, _, rfl, _⟩
      · exact ⟨none, 0, 0, by rw [e], fun h => absurd h h0, fun i hi => absurd (show 0 < cs.length by omega) h0⟩
      · exact ⟨_, 0, _, rfl, fun h => absurd h h0, fun i hi => absurd (show 0 < cs.length by omega) h0⟩
  obtain ⟨ra, rb, rc, r1, r2, r3⟩ := hR
  obtain ⟨ca, cb, cc, c1, c2, c3⟩ := hC
  exact ⟨⟨ra, rb, 0, rc, ca, cb, 0, cc⟩, r1, c1, ⟨fun h => (r2 h).1, fun h => (c2 h).1, r3, c3⟩, fun h => (r2 h).2, fun h => (c2 h).2⟩

theorem take_ok {RS : List (Int × Bool)} {CS : List Ins} : (prgOf (RS.take 7) (CS.take 8001)).Ok 8000 10 ↔ (prgOf RS CS).Ok 8000 10 := by
  by_cases h : RS.length ≤ 6 ∧ CS.length ≤ 8000
  · rw [List.take_of_length_le (by omega), List.take_of_length_le (by omega)]
  · constructor
    · intro k
      have k1 : (RS.take 7).length ≤ 6 := k.1.1
      have k2 : (CS.take 8001).length ≤ 8000 := k.2.2.1
      simp at k1 k2
      omega
    · intro k
      have k1 : RS.length ≤ 6 := k.1.1
      have k2 : CS.length ≤ 8000 := k.2.2.1
      omega
theorem ok_take {RS : List (Int × Bool)} {CS : List Ins} (k : (prgOf RS CS).Ok 8000 10) : RS.take 7 = RS ∧ CS.take 8001 = CS := by
  have k1 : RS.length ≤ 6 := k.1.1
  have k2 : CS.length ≤ 8000 := k.2.2.1
  exact ⟨List.take_of_length_le (by omega), List.take_of_length_le (by omega)⟩
theorem drop_at {α : Type} {L : List α} {k : Nat} {x : α} {r : List α} (h : L.drop k = x :: r) : L[k]? = some x ∧ L.length = k + 1 + r.length ∧ L.drop (k + 1) = r := by
  have h1 : (L.drop k)[0]? = some x := by rw [h]; rfl
  have h2 := congrArg List.length h
  rw [List.getElem?_drop] at h1
  simp at h2
  refine ⟨by simpa using h1, ?_, ?_⟩
  · have : k < L.length := by
      rcases Nat.lt_or_ge k L.length with q | q
      · exact q
      · rw [List.drop_eq_nil_of_le q] at h; cases h
    omega
  · rw [← List.drop_drop, h]; rfl
set_option maxHeartbeats 8000000 in
theorem parse_calls (s : List UInt8) (w : World) (hL : LaiE w) (hs : s.length ≤ 140737488355328) : Calls Tryd.prog 10 #[.string (txt s)] w (ParsAns s w) := by
  suffices hP : ∀ P : Ending → World → Prop, (∀ e w', ParsAns s w e w' → P e w') → Calls Tryd.prog 10 #[.string (txt s)] w P from hP _ (fun _ _ h => h)
  intro P hP0
  have Hfail : Hid (∀ (k : Nat) wr, FailsAt s k → More w wr → P (.returned (.tuple #[.agg #[.slice none 0 0, .slice none 0 0], .agg #[.int .i64 2, .int .i64 k]])) ((((wr.setCell ⟨w.heap.size, 0, none⟩ (.slice none 0 0)).setCell ⟨w.heap.size, 1, none⟩ (.slice none 0 0)).setCell ⟨w.heap.size + 1, 0, none⟩ (.int .i64 2)).setCell ⟨w.heap.size + 1, 1, none⟩ (.int .i64 k))) := fun k wr f m =>
    hP0 _ _ ⟨(((m.setCell (by show w.heap.size ≤ _; simp) _).setCell (by show w.heap.size ≤ _; simp) _).setCell (by show w.heap.size ≤ _; simp) _).setCell (by show w.heap.size ≤ _; simp) _, .inr ⟨k, f, rfl⟩⟩
  have HP : Hid (∀ e w', ParsAns s w e w' → P e w') := hP0
  have HL : Hid (LaiE w) := hL
  clear hP0 hL
  obtain ⟨L, HLs⟩ : ∃ x, Hid (splitL 10 s = x) := ⟨_, rfl⟩
  obtain ⟨W, HW⟩ : ∃ w_ : World, Hid (w_ = ((w.alloc (.cells #[.slice none 0 0, .slice none 0 0] 25)).alloc (.cells #[.int .i64 0, .int .i64 0] 32)).alloc (.cells #[.slice none 0 0, .slice none 0 0] 55)) := ⟨_, rfl⟩
  have HmW : Hid (More w W) := HW.out ▸ (((More.refl _).alloc _ _).alloc _ _).alloc _ _
  have HbR : Hid (Blk W w.heap.size #[.slice none 0 0, .slice none 0 0] 25) := HW.out ▸ ((Blk.last _ _ _).alloc _ _).alloc _ _
  have HbF : Hid (Blk W (w.heap.size + 1) #[.int .i64 0, .int .i64 0] 32) := by rw [HW.out]; show Blk _ _ _ _; refine Blk.alloc ?_ _ _; simpa using Blk.last (w.alloc (.cells #[.slice none 0 0, .slice none 0 0] 25)) #[.int .i64 0, .int .i64 0] 32
  have HbM : Hid (Blk W (w.heap.size + 1 + 1) #[.slice none 0 0, .slice none 0 0] 55) := by rw [HW.out]; show Blk _ _ _ _; simpa using Blk.last ((w.alloc (.cells #[.slice none 0 0, .slice none 0 0] 25)).alloc (.cells #[.int .i64 0, .int .i64 0] 32)) #[.slice none 0 0, .slice none 0 0] 55
  have HR0 : Hid (RdrL (w.heap.size + 1 + 1) [] [] W) := ⟨_, _, HbM.out, World.ownsRow_nil _ _ _ _, World.ownsRow_nil _ _ _ _⟩
  have HMo : Hid (∀ wr, Below (w.heap.size + 1 + 1) W wr → More w wr ∧ Blk wr w.heap.size #[.slice none 0 0, .slice none 0 0] 25 ∧ Blk wr (w.heap.size + 1) #[.int .i64 0, .int .i64 0] 32) := fun wr b => by
    have hsz := HbM.out.lt
    refine ⟨?_, (b.block _ (by omega)).trans HbR.out, (b.block _ (by omega)).trans HbF.out⟩
    exact Below.trans (a := w) (b := W) HmW.out (Below.mono b (by omega))
  go_enter Tryd.func10, Tryd.ntmps10
  go_wp2_with (fail)
  rw [← HW.out]
  go_loopg [0, 5] s.length (fun g sv kv wr => ∃ (sr : List UInt8) (k : Nat) (RS : List (Int × Bool)) (CS : List Ins), sr.length = g ∧ sv = .string (txt sr) ∧ kv = .int .i64 k ∧ Hid (k + sr.length ≤ s.length ∧ L.drop k = splitL 10 sr ∧ ParsK L k RS CS ∧ RdrL (w.heap.size + 1 + 1) RS CS wr ∧ Below (w.heap.size + 1 + 1) W wr))
  case atStart => exact ⟨s, 0, [], [], rfl, rfl, rfl, by omega, by rw [← HLs.out]; rfl, ⟨rfl, rfl⟩, HR0.out, Below.refl _ _⟩
  case round =>
    obtain ⟨sr, k, RS, CS, hg, rfl, rfl, Hr⟩ := hrel
    have hk40 : k ≤ 140737488355328 := by have := Hr.out.1; omega
    have hk63 : wrap64 ((k : Int) + 1) = (k : Int) + 1 := by unfold wrap64; omega
    have hsl : (txt sr).toList = sr := ByteArray.toList_mk _
    obtain ⟨Hm, HbR1, HbF1⟩ : Hid (More w wr) ∧ Hid (Blk wr w.heap.size #[.slice none 0 0, .slice none 0 0] 25) ∧ Hid (Blk wr (w.heap.size + 1) #[.int .i64 0, .int .i64 0] 32) := HMo.out wr Hr.out.2.2.2.2
    cases gk with
    | zero =>
      have hs0 : sr = [] := List.length_eq_zero_iff.1 hg
      have q1 : (txt sr).toList = [] := by rw [hsl, hs0]
      obtain ⟨rv, cv, hR⟩ := Hr.out.2.2.2.1
      obtain ⟨lo, e1, e2, hin, hrb, hcb⟩ := hR.pin
      obtain ⟨f1, f2, _⟩ := drop_at (x := []) (r := []) (by rw [Hr.out.2.1, hs0]; rfl)
      have HRR : Hid (R12 (w.heap.size + 1 + 1) (RS.take 7) (CS.take 8001) rv cv wr) := hR
      have CH : Hid (Calls Tryd.prog 13 #[.agg #[rv, cv]] wr fun e w' => ∃ r : Bool, e = .returned (.bool r) ∧ (r = true ↔ (prgOf RS CS).Ok 8000 10) ∧ More wr w') := by
        rw [e1, e2]
        refine (hard_calls (prgOf (RS.take 7) (CS.take 8001)) lo wr hin).mono ?_
        rintro e w' ⟨r, rfl, h1, h2⟩
        exact ⟨r, rfl, h1.trans take_ok, h2⟩
      have Hno : Hid (∀ w2, ¬ (prgOf RS CS).Ok 8000 10 → More w w2 → P (.returned (.tuple #[.agg #[.slice none 0 0, .slice none 0 0], .agg #[.int .i64 2, .int .i64 k]])) ((((w2.setCell ⟨w.heap.size, 0, none⟩ (.slice none 0 0)).setCell ⟨w.heap.size, 1, none⟩ (.slice none 0 0)).setCell ⟨w.heap.size + 1, 0, none⟩ (.int .i64 2)).setCell ⟨w.heap.size + 1, 1, none⟩ (.int .i64 k))) := fun w2 no m =>
        Hfail.out k w2 ⟨RS, CS, by rw [HLs.out]; exact Hr.out.2.2.1, .inr ⟨by rw [HLs.out]; simp at f2; omega, fun q => no q.2⟩⟩ m
      have Hyes : Hid (∀ w2, (prgOf RS CS).Ok 8000 10 → More wr w2 → P (.returned (.tuple #[.agg #[rv, cv], .agg #[.int .i64 0, .int .i64 0]])) ((((w2.setCell ⟨w.heap.size, 0, none⟩ rv).setCell ⟨w.heap.size, 1, none⟩ cv).setCell ⟨w.heap.size + 1, 0, none⟩ (.int .i64 0)).setCell ⟨w.heap.size + 1, 1, none⟩ (.int .i64 0))) := fun w2 ok m => by
        obtain ⟨t1, t2⟩ := ok_take ok
        rw [t1, t2] at hin
        rw [t1] at e1 hrb
        rw [t2] at e2 hcb
        refine HP.out _ _ ⟨((((Hm.out.trans m).setCell (by show w.heap.size ≤ _; simp) _).setCell (by show w.heap.size ≤ _; simp) _).setCell (by show w.heap.size ≤ _; simp) _).setCell (by show w.heap.size ≤ _; simp) _, .inl ⟨RS, CS, lo, ⟨k, by rw [HLs.out]; simp at f2; omega, by rw [HLs.out]; exact Hr.out.2.2.1, by rw [HLs.out]; exact f1, ok⟩, ?_, by rw [e1, e2]⟩⟩
        have hin2 := hin.more m
        exact ⟨hin2.hr, hin2.hc, regs_other (regs_other (regs_other (regs_other hin2.regs (fun h => by have := hrb h; omega) _ _) (fun h => by have := hrb h; omega) _ _) (fun h => by have := hrb h; omega) _ _) (fun h => by have := hrb h; omega) _ _, code_other (code_other (code_other (code_other hin2.code (fun h => by have := hcb h; omega) _ _) (fun h => by have := hcb h; omega) _ _) (fun h => by have := hcb h; omega) _ _) (fun h => by have := hcb h; omega) _ _⟩
      obtain ⟨a1, c1, rfl⟩ := own_slice HRR.out.ownR
      obtain ⟨a2, c2, rfl⟩ := own_slice HRR.out.ownC
      obtain ⟨n1, Hn1⟩ : ∃ x, Hid ((RS.take 7).length = x) := ⟨_, rfl⟩
      obtain ⟨n2, Hn2⟩ : ∃ x, Hid ((CS.take 8001).length = x) := ⟨_, rfl⟩
      rw [Hn1.out, Hn2.out] at HRR CH Hyes
      have p0 : wr.cell? ⟨w.heap.size + 1 + 1, 0, none⟩ = some (.slice a1 n1 c1) := HRR.out.prg.cell rfl
      have p1 : wr.cell? ⟨w.heap.size + 1 + 1, 1, none⟩ = some (.slice a2 n2 c2) := HRR.out.prg.cell rfl
      clear Hfail HP e1 e2 hin hrb hcb hs0 hsl f1 f2 hR hg
      obtain ⟨tr, Htr⟩ : ∃ x, Hid (txt sr = x) := ⟨_, rfl⟩
      rw [Htr.out] at q1 ⊢
      go_wp2_with (fail)
      refine CH.out.mono ?_
      rintro e w2 ⟨r, rfl, hr, m2⟩
      have Hm2 : Hid (More wr w2) := m2
      clear m2 CH p0 p1
      have p0 : w2.cell? ⟨w.heap.size + 1 + 1, 0, none⟩ = some (.slice a1 n1 c1) := (HRR.out.prg.more Hm2.out).cell rfl
      have p1 : w2.cell? ⟨w.heap.size + 1 + 1, 1, none⟩ = some (.slice a2 n2 c2) := (HRR.out.prg.more Hm2.out).cell rfl
      have a0 : w2.cell? ⟨w.heap.size, 0, none⟩ = some (.slice none 0 0) := (HbR1.out.more Hm2.out).cell rfl
      have a1' : w2.cell? ⟨w.heap.size, 1, none⟩ = some (.slice none 0 0) := (HbR1.out.more Hm2.out).cell rfl
      have a2' : w2.cell? ⟨w.heap.size + 1, 0, none⟩ = some (.int .i64 0) := (HbF1.out.more Hm2.out).cell rfl
      have a3 : w2.cell? ⟨w.heap.size + 1, 1, none⟩ = some (.int .i64 0) := (HbF1.out.more Hm2.out).cell rfl
      have z0 := (HbR1.out.more Hm2.out).frozen 0
      have z1 := (HbR1.out.more Hm2.out).frozen 1
      have z2 := (HbF1.out.more Hm2.out).frozen 0
      have z3 := (HbF1.out.more Hm2.out).frozen 1
      cases r with
      | false =>
        have HE := hid_tb (Hno.out w2 (fun h => by simpa using hr.2 h) (Hm.out.trans Hm2.out))
        clear hr Hno Hyes
        go_wp2
        refine bodyPost_ret (v := .tuple #[.agg #[.slice none 0 0, .slice none 0 0], .agg #[.int .i64 2, .int .i64 k]]) (by simp [results, Tryd.results10, go_sem, *]) rfl ?_
        exact HE.out
      | true =>
        have HE := hid_tb (Hyes.out w2 (hr.1 rfl) Hm2.out)
        clear hr Hno Hyes
        go_wp2
        refine bodyPost_ret (v := .tuple #[.agg #[.slice a1 n1 c1, .slice a2 n2 c2], .agg #[.int .i64 0, .int .i64 0]]) (by simp [results, Tryd.results10, go_sem, *]) rfl ?_
        exact HE.out
    | succ g =>
      have hs0 : ¬ sr = [] := by intro e; rw [e] at hg; simp at hg
      have q1 : ¬ (txt sr).toList = [] := by rw [hsl]; exact hs0
      have q2 : (txt sr).toList.isEmpty = false := by rw [hsl]; simpa using hs0
      have hl62 : sr.length < 4611686018427387904 := by have := Hr.out.1; omega
      have CC := hid_tb (cut_calls sr hl62 10 wr)
      have HRd : Hid (RdrL (w.heap.size + 1 + 1) RS CS wr) := Hr.out.2.2.2.1
      have HBe : Hid (Below (w.heap.size + 1 + 1) W wr) := Hr.out.2.2.2.2
      have HM2 : Hid (w.heap.size + 1 + 1 < wr.heap.size) := by obtain ⟨_, _, h⟩ := HRd.out; exact h.prg.lt
      have CT : Hid (∀ l w1, l.length < 4611686018427387904 → More wr w1 → Calls Tryd.prog 22 #[.pointer (some ⟨w.heap.size + 1 + 1, 0, none⟩), .string (txt l)] w1 fun e w' => ∃ (ok : Bool) (RS' : List (Int × Bool)) (CS' : List Ins), e = .returned (.bool ok) ∧ TakeAns l RS CS RS' CS' ok ∧ RdrL (w.heap.size + 1 + 1) RS' CS' w' ∧ Below (w.heap.size + 1 + 1) w1 w') := fun l w1 hl m => take_calls _ RS CS l hl w1 (HL.out.more (Hm.out.trans m)) (HRd.out.up m)
      obtain ⟨tr, Htr⟩ : ∃ x, Hid (txt sr = x) := ⟨_, rfl⟩
      rw [Htr.out] at q1 q2 CC ⊢
      clear hsl
      go_wp2_with (fail)
      refine CC.out.mono ?_
      rintro e w1 ⟨d1, d2, ok, rfl, hd, m1⟩
      have Hm1 : Hid (More wr w1) := m1
      clear m1 CC
      cases ok with
      | false =>
        have hno : ¬ (10 : UInt8) ∈ sr := by
          rcases hd with ⟨h, _⟩ | ⟨_, h, _⟩
          · cases h
          · exact h
        obtain ⟨f1, f2, _⟩ := drop_at (x := sr) (r := []) (by rw [Hr.out.2.1, splitL_none 10 sr hno])
        have HE := hid_tb (Hfail.out k w1 ⟨RS, CS, by rw [HLs.out]; exact Hr.out.2.2.1, .inr ⟨by rw [HLs.out]; simp at f2; omega, fun q => hs0 (by have q1 := q.1; rw [HLs.out, f1] at q1; exact Option.some.inj q1)⟩⟩ (Hm.out.trans Hm1.out))
        clear hd hno f1 f2 CT Hfail HP hs0 hg hl62
        have a0 : w1.cell? ⟨w.heap.size, 0, none⟩ = some (.slice none 0 0) := (HbR1.out.more Hm1.out).cell rfl
        have a1' : w1.cell? ⟨w.heap.size, 1, none⟩ = some (.slice none 0 0) := (HbR1.out.more Hm1.out).cell rfl
        have a2' : w1.cell? ⟨w.heap.size + 1, 0, none⟩ = some (.int .i64 0) := (HbF1.out.more Hm1.out).cell rfl
        have a3 : w1.cell? ⟨w.heap.size + 1, 1, none⟩ = some (.int .i64 0) := (HbF1.out.more Hm1.out).cell rfl
        have z0 := (HbR1.out.more Hm1.out).frozen 0
        have z1 := (HbR1.out.more Hm1.out).frozen 1
        have z2 := (HbF1.out.more Hm1.out).frozen 0
        have z3 := (HbF1.out.more Hm1.out).frozen 1
        go_wp2
        refine bodyPost_ret (v := .tuple #[.agg #[.slice none 0 0, .slice none 0 0], .agg #[.int .i64 2, .int .i64 k]]) (by simp [results, Tryd.results10, go_sem, *]) rfl ?_
        exact HE.out
      | true =>
        obtain ⟨x, y, hxy, hx10, hd1, hd2⟩ : ∃ x y, sr = x ++ 10 :: y ∧ ¬ (10 : UInt8) ∈ x ∧ d1 = txt x ∧ d2 = txt y := by
          rcases hd with ⟨_, h⟩ | ⟨h, _⟩
          · exact h
          · cases h
        obtain ⟨f1, f2, f3⟩ := drop_at (x := x) (r := splitL 10 y) (by rw [Hr.out.2.1, hxy, splitL_app 10 y x hx10])
        have hlen : sr.length = x.length + 1 + y.length := by rw [hxy]; simp; omega
        have C2 := hid_tb (CT.out x w1 (by omega) Hm1.out)
        have Hbad : Hid (∀ w2, (∀ rs' cs', ¬ LineTo x RS CS rs' cs') → More w w2 → P (.returned (.tuple #[.agg #[.slice none 0 0, .slice none 0 0], .agg #[.int .i64 2, .int .i64 k]])) ((((w2.setCell ⟨w.heap.size, 0, none⟩ (.slice none 0 0)).setCell ⟨w.heap.size, 1, none⟩ (.slice none 0 0)).setCell ⟨w.heap.size + 1, 0, none⟩ (.int .i64 2)).setCell ⟨w.heap.size + 1, 1, none⟩ (.int .i64 k))) := fun w2 no m =>
          Hfail.out k w2 ⟨RS, CS, by rw [HLs.out]; exact Hr.out.2.2.1, .inl ⟨x, by rw [HLs.out]; have := (splitL_length 10 y).1; omega, by rw [HLs.out]; exact f1, no⟩⟩ m
        have Hnx : Hid (∀ (RS' : List (Int × Bool)) (CS' : List Ins) w2, LineTo x RS CS RS' CS' → RdrL (w.heap.size + 1 + 1) RS' CS' w2 → Below (w.heap.size + 1 + 1) W w2 → ∃ (sr : List UInt8) (k' : Nat) (RS : List (Int × Bool)) (CS : List Ins), sr.length = y.length ∧ Value.string d2 = .string (txt sr) ∧ Value.int .i64 ((k : Int) + 1) = .int .i64 k' ∧ Hid (k' + sr.length ≤ s.length ∧ L.drop k' = splitL 10 sr ∧ ParsK L k' RS CS ∧ RdrL (w.heap.size + 1 + 1) RS CS w2 ∧ Below (w.heap.size + 1 + 1) W w2)) := fun RS' CS' w2 h1 h2 h3 =>
          ⟨y, k + 1, RS', CS', rfl, by rw [hd2], by simp, by have := Hr.out.1; omega, f3, ⟨RS, CS, x, Hr.out.2.2.1, f1, h1⟩, h2, h3⟩
        have hyg : y.length < g + 1 := by omega
        rw [← hd1] at C2
        clear hd hd1 hd2 f1 f2 f3 hlen CT Hfail HP hs0 hg hl62 hx10 hxy
        go_wp2_with (fail)
        refine C2.out.mono ?_
        rintro e w2 ⟨ok2, RS', CS', rfl, h1, h2, b2⟩
        have HB2 : Hid (Below (w.heap.size + 1 + 1) W w2) := (HBe.out.trans (Below.mono Hm1.out (by have := HM2.out; omega))).trans b2
        clear C2
        cases ok2 with
        | true =>
          have hl : LineTo x RS CS RS' CS' := by
            rcases h1 with ⟨_, h⟩ | ⟨h, _⟩
            · exact h
            · cases h
          have HN := hid_tb (Hnx.out RS' CS' w2 hl h2 HB2.out)
          clear h1 h2 b2 hl Hnx Hbad
          go_wp2
          go_roundg y.length
          case measure => exact hyg
          case rel => exact HN.out
        | false =>
          have hl : ∀ rs' cs', ¬ LineTo x RS CS rs' cs' := by
            rcases h1 with ⟨h, _⟩ | ⟨_, h, _⟩
            · cases h
            · exact h
          obtain ⟨Hm3, HbR3, HbF3⟩ : Hid (More w w2) ∧ Hid (Blk w2 w.heap.size #[.slice none 0 0, .slice none 0 0] 25) ∧ Hid (Blk w2 (w.heap.size + 1) #[.int .i64 0, .int .i64 0] 32) := HMo.out w2 HB2.out
          have HE := hid_tb (Hbad.out w2 hl Hm3.out)
          clear h1 h2 b2 hl Hnx Hbad
          have a0 : w2.cell? ⟨w.heap.size, 0, none⟩ = some (.slice none 0 0) := HbR3.out.cell rfl
          have a1' : w2.cell? ⟨w.heap.size, 1, none⟩ = some (.slice none 0 0) := HbR3.out.cell rfl
          have a2' : w2.cell? ⟨w.heap.size + 1, 0, none⟩ = some (.int .i64 0) := HbF3.out.cell rfl
          have a3 : w2.cell? ⟨w.heap.size + 1, 1, none⟩ = some (.int .i64 0) := HbF3.out.cell rfl
          have z0 := HbR3.out.frozen 0
          have z1 := HbR3.out.frozen 1
          have z2 := HbF3.out.frozen 0
          have z3 := HbF3.out.frozen 1
          go_wp2
          refine bodyPost_ret (v := .tuple #[.agg #[.slice none 0 0, .slice none 0 0], .agg #[.int .i64 2, .int .i64 k]]) (by simp [results, Tryd.results10, go_sem, *]) rfl ?_
          exact HE.out
theorem textL_ne {p : Prg} (h : 1 ≤ p.cl) : ¬ textL p = [] := by
  intro e
  have h1 := congrArg List.length e
  unfold textL at h1
  obtain ⟨k, hk⟩ : ∃ k, p.cl = k + 1 := ⟨p.cl - 1, by omega⟩
  rw [hk, insL_, lineL] at h1
  simp at h1
theorem textL_short {p : Prg} (h : p.Ok 8000 10) : (textL p).length ≤ 140737488355328 := by
  have h1 := regsL_length p p.rl
  have h2 := insL_length p p.cl
  have h3 := h.1.1
  have h4 := h.2.2.1
  unfold textL
  rw [List.length_append]
  omega
theorem eq8_of (p : Prg) : p.Eq8 (prgOf (regsOf p) (codeOf p)) := ⟨(regsOf_length p).symm, fun i hi => ⟨(prgOf_log p hi).symm, (prgOf_sec p hi).symm⟩, (codeOf_length p).symm, fun i hi => (prgOf_ins p hi).symm⟩

set_option maxHeartbeats 2000000 in
theorem text_back_walk (p : Prg) (l : Loc) (w : World) (HPr : PrintIs w) (HPa : ParseIs w) (hp : PIn w p l) (hf : p.Fit) : Calls Tryd.prog 5 #[.agg #[.slice l.ra p.rl l.rc, .slice l.ca p.cl l.cc]] w fun e w' => e = .returned (.bool true) ∧ More w w' := by
  suffices hP : ∀ P : Ending → World → Prop, (∀ w', More w w' → P (.returned (.bool true)) w') → Calls Tryd.prog 5 #[.agg #[.slice l.ra p.rl l.rc, .slice l.ca p.cl l.cc]] w P from hP _ (fun w' m => ⟨rfl, m⟩)
  intro P hP0
  have HP : Hid (∀ w', More w w' → P (.returned (.bool true)) w') := hP0
  have C1 : Hid (∀ w1, More w w1 → Calls Tryd.prog 7 #[.agg #[.slice l.ra p.rl l.rc, .slice l.ca p.cl l.cc]] w1 fun e w' => ∃ (d : ByteArray) (x : Int), e = .returned (.tuple #[.string d, .int .i64 x]) ∧ More w1 w' ∧ ((p.Ok 8000 10 ∧ d = txt (textL p) ∧ x = 0) ∨ (¬ p.Ok 8000 10 ∧ d = txt [] ∧ x = 2))) := fun w1 m => by
    refine (HPr p l w1 m (hp.more m) hf).mono ?_
    rintro e w' ⟨mm, ⟨ok, rfl⟩ | ⟨ok, rfl⟩⟩
    · exact ⟨_, _, rfl, mm, .inl ⟨ok, rfl, rfl⟩⟩
    · exact ⟨_, _, rfl, mm, .inr ⟨ok, rfl, rfl⟩⟩
  have C2 : Hid (∀ w1, More w w1 → p.Ok 8000 10 → Calls Tryd.prog 10 #[.string (txt (textL p))] w1 (ParsAns (textL p) w1)) := fun w1 m ok => HPa (textL p) w1 m (textL_short ok)
  have Hrd : Hid (p.Ok 8000 10 → ReadsAs (textL p) (regsOf p) (codeOf p)) := fun ok => text_reads p ok (fun k hk => (hf.ins k hk).2.2.2.2)
  have C3 : Hid (∀ (q : Prg) (l' : Loc) w3, p.Ok 8000 10 → More w w3 → p.Eq8 q → PIn w3 q l' → Calls Tryd.prog 12 #[.agg #[.slice l.ra p.rl l.rc, .slice l.ca p.cl l.cc], .agg #[.slice l'.ra q.rl l'.rc, .slice l'.ca q.cl l'.cc]] w3 fun e w' => e = .returned (.bool true) ∧ More w3 w') := fun q l' w3 ok m3 e8 hq => by
    have h3 := ok.1.1
    have h4 := ok.2.2.1
    exact same8_true p q l l' w3 (hp.more m3) hq e8 (by omega) (by omega)
  have He8 : Hid (p.Eq8 (prgOf (regsOf p) (codeOf p))) := eq8_of p
  clear hp hf HPr hP0 HPa
  obtain ⟨ra, Hra⟩ : ∃ x, Hid (l.ra = x) := ⟨_, rfl⟩
  obtain ⟨rl, Hrl⟩ : ∃ x, Hid (p.rl = x) := ⟨_, rfl⟩
  obtain ⟨rc, Hrc⟩ : ∃ x, Hid (l.rc = x) := ⟨_, rfl⟩
  obtain ⟨ca, Hca⟩ : ∃ x, Hid (l.ca = x) := ⟨_, rfl⟩
  obtain ⟨cl, Hcl⟩ : ∃ x, Hid (p.cl = x) := ⟨_, rfl⟩
  obtain ⟨cc, Hcc⟩ : ∃ x, Hid (l.cc = x) := ⟨_, rfl⟩
  rw [Hra.out, Hrl.out, Hrc.out, Hca.out, Hcl.out, Hcc.out] at C1 C3 ⊢
  obtain ⟨W, HW⟩ : ∃ w_ : World, Hid (w_ = w.alloc (.cells #[.slice ra rl rc, .slice ca cl cc] 25)) := ⟨_, rfl⟩
  have HmW : Hid (More w W) := HW.out ▸ (More.refl _).alloc _ _
  have HbW : Hid (Blk W w.heap.size #[.slice ra rl rc, .slice ca cl cc] 25) := HW.out ▸ Blk.last _ _ _
  go_enter Tryd.func5, Tryd.ntmps5
  go_wp2_with (fail)
  rw [← HW.out]
  refine (C1.out W HmW.out).mono ?_
  rintro e w1 ⟨d, x, rfl, m1, hd⟩
  have Hm1 : Hid (More W w1) := m1
  clear m1 C1
  rcases hd with ⟨ok, h1, rfl⟩ | ⟨_, h1, rfl⟩
  · have hne : ¬ d.toList = [] := by rw [h1, ByteArray.toList_mk]; exact textL_ne ok.2.1
    have hneb : d.toList.isEmpty = false := by simpa using hne
    have CP := hid_of0 (C2.out w1 (HmW.out.trans Hm1.out) ok)
    rw [← h1] at CP
    have Hok := hid_of0 ok
    clear h1 C2 ok
    go_wp2_with (fail)
    refine CP.out.mono ?_
    intro e w2 h2
    obtain ⟨q', ra', ca', rb', ro', rc', cb', co', cc', rl', cl', x', y', rfl, m2, H2⟩ := h2.got
    have Hm2 : Hid (More w1 w2) := m2
    clear h2 m2 CP
    obtain ⟨hq, rfl, rfl⟩ := got_one H2.out.2.2.2 (.inl ⟨_, _, Hrd.out Hok.out, rfl, rfl, rfl⟩)
    have b0 : w2.cell? ⟨w.heap.size, 0, none⟩ = some (.slice ra rl rc) := (HbW.out.more (Hm1.out.trans Hm2.out)).cell rfl
    have b1 : w2.cell? ⟨w.heap.size, 1, none⟩ = some (.slice ca cl cc) := (HbW.out.more (Hm1.out.trans Hm2.out)).cell rfl
    have bl := (HbW.out.more (Hm1.out.trans Hm2.out)).lt
    obtain ⟨W2, HW2⟩ : ∃ w_ : World, Hid (w_ = (w2.alloc (.cells #[.slice ra' rl' rc', .slice ca' cl' cc'] 25)).alloc (.cells #[.int .i64 0, .int .i64 0] 32)) := ⟨_, rfl⟩
    have HmV : Hid (More w2 W2) := HW2.out ▸ ((More.refl _).alloc _ _).alloc _ _
    have C4 : Hid (Calls Tryd.prog 12 #[.agg #[.slice ra rl rc, .slice ca cl cc], .agg #[.slice ra' rl' rc', .slice ca' cl' cc']] W2 fun e w' => e = .returned (.bool true) ∧ More W2 w') := by
      have := C3.out q' ⟨ra', rb', ro', rc', ca', cb', co', cc'⟩ W2 Hok.out (((HmW.out.trans Hm1.out).trans Hm2.out).trans HmV.out) (by rw [hq]; exact He8.out) (H2.out.2.2.1.more HmV.out)
      rw [H2.out.1, H2.out.2.1] at this
      exact this
    clear C3 hq
    go_wp2_with (fail)
    rw [← HW2.out]
    refine C4.out.mono ?_
    rintro e w3 ⟨rfl, m3⟩
    have HE := hid_of0 (HP.out w3 ((((HmW.out.trans Hm1.out).trans Hm2.out).trans HmV.out).trans m3))
    clear HP C4 m3
    go_wp2
    exact HE.out
  · have hd : d.toList = [] := by rw [h1]; exact ByteArray.toList_mk _
    have HE := hid_of0 (HP.out w1 (HmW.out.trans Hm1.out))
    clear h1 HP C2 C3
    go_wp2
    exact HE.out

def fenceP : Prg := ⟨0, fun _ => 0, fun _ => false, 1, fun _ => ⟨12, 0, 0, 0, 0⟩⟩
def fenceL : List UInt8 := [102, 101, 110, 99, 101, 10]
theorem fence_ok : fenceP.Ok 8000 10 := by
  refine ⟨⟨by decide, fun i hi => absurd hi (Nat.not_lt_zero i)⟩, by decide, by decide, fun i hi => ?_⟩
  show InsOk 0 _ 1 10 ⟨12, 0, 0, 0, 0⟩
  unfold InsOk
  simp
theorem fence_text : textL fenceP = fenceL := rfl
theorem fence_reads : ReadsAs fenceL (regsOf fenceP) (codeOf fenceP) := by
  rw [← fence_text]
  exact text_reads fenceP fence_ok (fun k hk => by show B64 0; unfold B64; omega)

set_option maxHeartbeats 2000000 in
theorem text_again_walk (s : List UInt8) (w : World) (HPr : PrintIs w) (HPa : ParseIs w) (hs : s.length ≤ 140737488355328) : Calls Tryd.prog 6 #[.string (txt s)] w fun e w' => e = .returned (.bool true) ∧ More w w' := by
  suffices hP : ∀ P : Ending → World → Prop, (∀ w', More w w' → P (.returned (.bool true)) w') → Calls Tryd.prog 6 #[.string (txt s)] w P from hP _ (fun w' m => ⟨rfl, m⟩)
  intro P hP0
  have HP : Hid (∀ w', More w w' → P (.returned (.bool true)) w') := hP0
  have C1 : Hid (∀ w1, More w w1 → Calls Tryd.prog 10 #[.string ⟨#[102, 101, 110, 99, 101, 10]⟩] w1 (ParsAns fenceL w1)) := fun w1 m => HPa fenceL w1 m (by decide)
  have C2 := hid_of0 (fun w1 m => HPa s w1 m hs)
  have C3 := hid_of0 HPr
  clear hP0 HPa HPr
  obtain ⟨ss, Hss⟩ : ∃ x, Hid (txt s = x) := ⟨_, rfl⟩
  rw [Hss.out] at C2 ⊢
  go_enter Tryd.func6, Tryd.ntmps6
  go_wp2_with (fail)
  refine (C1.out w (More.refl _)).mono ?_
  intro e w1 h1
  obtain ⟨q, ra, ca, rb, ro, rc, cb, co, cc, rl, cl, x, y, rfl, m1, H1⟩ := h1.got
  have Hm1 : Hid (More w w1) := m1
  clear h1 m1 C1
  obtain ⟨hq, rfl, rfl⟩ := got_one H1.out.2.2.2 (.inl ⟨_, _, fence_reads, rfl, rfl, rfl⟩)
  obtain rfl : cl = 1 := by rw [← H1.out.2.1, hq]; rfl
  clear hq
  obtain ⟨W1, HW1⟩ : ∃ w_ : World, Hid (w_ = (w1.alloc (.cells #[.slice ra rl rc, .slice ca 1 cc] 25)).alloc (.cells #[.int .i64 0, .int .i64 0] 32)) := ⟨_, rfl⟩
  have HmW : Hid (More w1 W1) := HW1.out ▸ ((More.refl _).alloc _ _).alloc _ _
  go_wp2_with (fail)
  rw [← HW1.out]
  refine (C2.out W1 (Hm1.out.trans HmW.out)).mono ?_
  intro e w2 h2
  obtain ⟨q', ra', ca', rb', ro', rc', cb', co', cc', rl', cl', x', y', rfl, m2, H2⟩ := h2.got
  have Hm2 : Hid (More w w2) := (Hm1.out.trans HmW.out).trans m2
  clear h2 m2 C2
  rcases H2.out.2.2.2 with ⟨rs, cs, hr, hq', rfl, rfl⟩ | ⟨k, hk, hq', rfl, rfl⟩
  · have Hrd := hid_of0 (And.intro hr hq')
    clear hr hq'
    obtain ⟨W2, HW2⟩ : ∃ w_ : World, Hid (w_ = (w2.alloc (.cells #[.slice ra' rl' rc', .slice ca' cl' cc'] 25)).alloc (.cells #[.int .i64 0, .int .i64 0] 32)) := ⟨_, rfl⟩
    have HmV : Hid (More w2 W2) := HW2.out ▸ ((More.refl _).alloc _ _).alloc _ _
    have C4 : Hid (Calls Tryd.prog 7 #[.agg #[.slice ra' rl' rc', .slice ca' cl' cc']] W2 fun e w' => ∃ d : ByteArray, e = .returned (.tuple #[.string d, .int .i64 0]) ∧ d = ss ∧ More W2 w') := by
      obtain ⟨hr, rfl⟩ := Hrd.out
      have := C3.out (prgOf rs cs) ⟨ra', rb', ro', rc', ca', cb', co', cc'⟩ W2 (Hm2.out.trans HmV.out) (H2.out.2.2.1.more HmV.out) (reads_fit hr)
      rw [H2.out.1, H2.out.2.1] at this
      refine this.mono ?_
      rintro e w' ⟨mm, ⟨ok, rfl⟩ | ⟨no, _⟩⟩
      · exact ⟨_, rfl, by rw [← Hss.out, ← reads_text hr], mm⟩
      · obtain ⟨_, _, _, _, ok⟩ := hr
        exact absurd ok no
    clear C3
    go_wp2_with (fail)
    rw [← HW2.out]
    refine C4.out.mono ?_
    rintro e w3 ⟨d, rfl, rfl, m3⟩
    have HE := hid_of0 (HP.out w3 ((Hm2.out.trans HmV.out).trans m3))
    clear HP C4 m3
    go_wp2
    exact HE.out
  · obtain rfl : rl' = 0 := by rw [← H2.out.1, hq']; rfl
    obtain rfl : cl' = 0 := by rw [← H2.out.2.1, hq']; rfl
    have HE := hid_of0 (HP.out ((w2.alloc (.cells #[.slice ra' 0 rc', .slice ca' 0 cc'] 25)).alloc (.cells #[.int .i64 2, .int .i64 k] 32)) ((Hm2.out.alloc _ _).alloc _ _))
    clear HP C3 hq' hk
    go_wp2
    exact HE.out
end
end Go.Proofs.YtoedgnedallhnaaDoor
