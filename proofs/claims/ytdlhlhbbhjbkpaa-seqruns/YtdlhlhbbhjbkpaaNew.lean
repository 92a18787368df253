/-
  What package seq's New comes to where nothing is wrong: a machine ahead of its first step, with the words of memory.
-/
import Derived.Test.YtdlhlhbbhjbkpaaNewBad
import Derived.Test.YtdlhlhbbhjbkpaaShown
import Derived.Deep.LoopGhost
namespace Go.Proofs.Ytdlhlhbbhjbkpaa
open Go.RowKit
set_option linter.unusedVariables false
set_option linter.unusedSimpArgs false
set_option maxRecDepth 8000

theorem MC.set {c : Array Value} {rv cv rv' cv' : Value} {x x' : Ms} (h : MC c rv cv x) (j : Nat) (v : Value) (hx : ∀ i, i < 411 → cellF rv' cv' x' i = if i = j then v else cellF rv cv x i) : MC (c.setIfInBounds j v) rv' cv' x' := by
  refine ⟨by simp [h.size], fun i hi => ?_⟩
  rw [hx i hi, Array.getElem?_setIfInBounds]
  by_cases e : i = j
  · subst e
    rw [if_pos rfl, if_pos rfl, if_pos (by rw [h.size]; exact hi)]
  · rw [if_neg (fun h => e h.symm), if_neg e]
    exact h.at_ i hi
theorem MC.first {z : Array Value} (h : MC z (.slice none 0 0) (.slice none 0 0) (ms0 0)) (rv cv : Value) (fuel : Int) : MC (((z.setIfInBounds 0 rv).setIfInBounds 1 cv).setIfInBounds 402 (.int .i64 fuel)) rv cv (ms0 fuel) := by
  have h1 : MC (z.setIfInBounds 0 rv) rv (.slice none 0 0) (ms0 0) := h.set 0 rv fun i hi => by unfold cellF; by_cases e : i = 0 <;> simp [e]
  have h2 : MC ((z.setIfInBounds 0 rv).setIfInBounds 1 cv) rv cv (ms0 0) := h1.set 1 cv fun i hi => by unfold cellF; by_cases e : i = 1 <;> simp [e]
  exact h2.set 402 _ fun i hi => by unfold cellF ms0; by_cases e : i = 402 <;> simp [e]

theorem info2s : (Try.prog.info? 2).map (·.size) = some 1 := by kernel_rfl
theorem More.trans_setRow {w w' : World} {g : Nat} {c : Array Value} (h : More w w') (hg : w.heap.size ≤ g) : More w (w'.setRow g c) :=
  Below.trans h ⟨rfl, rfl, rfl, by simp [World.setRow], fun k hk => setRow_other w' g k c (by omega)⟩

theorem MC.like {c : Array Value} {rv cv : Value} {x : Ms} (h : MC c rv cv x) {w : World} {M : Nat} (hh : w.heap[M]? = some (.cells c 70 (0, 0))) : MAt w M rv cv x := ⟨c, hh, h⟩

set_option maxHeartbeats 2000000 in
theorem seq_new (p : Prg) (l : Loc) (m : Mem) (ml : MLoc) (fuel : Int) (w : World) (h : PIn w p l) (hm : MIn w m ml) (hok : p.Ok 8000 10) (hfit : FitsOk p.rl p.log m.ml m.len) (hlen : ∀ i, i < m.ml → 0 < m.len i ∧ m.len i ≤ 64) (f0 : 0 ≤ fuel) (f1 : fuel ≤ 40000) :
    Calls Try.prog 38 #[.agg #[.slice l.ra p.rl l.rc, .slice l.ca p.cl l.cc], .slice ml.ma m.ml ml.mc, .int .i64 fuel] w fun e w' => ∃ (c : Array Value) (W S : Nat → Int), e = .returned (.tuple #[.agg c, .int .i64 0]) ∧ MC c (.slice l.ra p.rl l.rc) (.slice l.ca p.cl l.cc) { ms0 fuel with wd := W, st := S } ∧
      (∀ j, j ≤ m.ml → S j = (baseN m.len j : Int)) ∧ (∀ j, j < m.ml → ∀ i, i < m.len j → W (baseN m.len j + i) = m.wd j i) ∧ More w w' := by
  obtain ⟨z, z1, z2, z3, z4⟩ := zrow
  obtain ⟨ma, mb, mo, mc, A, C0, gb, go⟩ := ml
  have H : Hid (PIn w p l ∧ MIn w m ⟨ma, mb, mo, mc, A, C0, gb, go⟩ ∧ p.Ok 8000 10 ∧ FitsOk p.rl p.log m.ml m.len ∧ (∀ i, i < m.ml → 0 < m.len i ∧ m.len i ≤ 64)) := ⟨h, hm, hok, hfit, hlen⟩
  have Hz : Hid (MC z (.slice none 0 0) (.slice none 0 0) (ms0 0) ∧ (Try.prog.info? 70).map (·.size) = some 411 ∧ z.size = 411) := ⟨z3, z4, z3.size⟩
  have hzs : z.size = 411 := z3.size
  have Hc : Hid (MC (((z.setIfInBounds 0 (.slice l.ra p.rl l.rc)).setIfInBounds 1 (.slice l.ca p.cl l.cc)).setIfInBounds 402 (.int .i64 fuel)) (.slice l.ra p.rl l.rc) (.slice l.ca p.cl l.cc) (ms0 fuel)) := z3.first _ _ _
  obtain ⟨P, hP⟩ : ∃ P, P = fun (e : Ending) (w' : World) => ∃ (c : Array Value) (W S : Nat → Int), e = .returned (.tuple #[.agg c, .int .i64 0]) ∧ MC c (.slice l.ra p.rl l.rc) (.slice l.ca p.cl l.cc) { ms0 fuel with wd := W, st := S } ∧
      (∀ j, j ≤ m.ml → S j = (baseN m.len j : Int)) ∧ (∀ j, j < m.ml → ∀ i, i < m.len j → W (baseN m.len j + i) = m.wd j i) ∧ More w w' := ⟨_, rfl⟩
  rw [← hP]
  have HP : Hid (P = fun (e : Ending) (w' : World) => ∃ (c : Array Value) (W S : Nat → Int), e = .returned (.tuple #[.agg c, .int .i64 0]) ∧ MC c (.slice l.ra p.rl l.rc) (.slice l.ca p.cl l.cc) { ms0 fuel with wd := W, st := S } ∧
      (∀ j, j ≤ m.ml → S j = (baseN m.len j : Int)) ∧ (∀ j, j < m.ml → ∀ i, i < m.len j → W (baseN m.len j + i) = m.wd j i) ∧ More w w') := hP
  dsimp only
  obtain ⟨n, hn⟩ : ∃ n, m.ml = n := ⟨_, rfl⟩
  rw [hn]
  have Hn : Hid (m.ml = n) := hn
  clear h hm hok hfit hlen z3 z4 hP hn
  have f2 : ¬ fuel < 0 := by omega
  have f3 : ¬ 40000 < fuel := by omega
  have f2' : decide (fuel < 0) = false := by simp; omega
  have f3' : decide (40000 < fuel) = false := by simp; omega
  go_enter Try.func38, Try.ntmps38
  go_wp2_with (fail)
  refine (hard_calls p l _ (H.out.1.more (((More.refl _).alloc _ _).alloc _ _))).mono ?_
  rintro e w1 ⟨r1, rfl, h1, m1⟩
  obtain rfl : r1 = true := h1.2 H.out.2.2.1
  have hrow1 : w1.heap[w.heap.size + 1]? = some (.cells z 70 (0, 0)) := by rw [m1.block (w.heap.size + 1) (size_alloc2 _ _ _)]; exact heap_alloc2_last _ _ _
  have e0 : w1.cell? ⟨w.heap.size, 0, none⟩ = some (.slice l.ra p.rl l.rc) := m1.cell (by go_simp)
  have e1 : w1.cell? ⟨w.heap.size, 1, none⟩ = some (.slice l.ca p.cl l.cc) := m1.cell (by go_simp)
  have Hm1 : Hid (More w w1) := (((More.refl _).alloc _ _).alloc _ _).trans m1
  have s1 : w.heap.size + 2 ≤ w1.heap.size := by have := m1.size; have := size_alloc2 w (.cells #[.slice l.ra p.rl l.rc, .slice l.ca p.cl l.cc] 29) (.cells z 70); omega
  clear m1 h1
  go_wp2_with (fail)
  refine (fits_calls l.ra p.rl l.rc l.ca p.cl l.cc ma n mc l.rb l.ro mb mo p.log p.sec A m.len C0 _ H.out.1.hr (H.out.1.regs.more Hm1.out) (by rw [← Hn.out]; exact H.out.2.1.hm) (by rw [← Hn.out]; exact H.out.2.1.lists.more Hm1.out)).mono ?_
  rintro e w2 ⟨r2, rfl, h2, m2⟩
  obtain rfl : r2 = true := h2.2 (by rw [← Hn.out]; exact H.out.2.2.2.1)
  have hrow2 : w2.heap[w.heap.size + 1]? = some (.cells z 70 (0, 0)) := by rw [m2.block (w.heap.size + 1) (by omega)]; exact hrow1
  have e0' := m2.cell e0
  have e1' := m2.cell e1
  have Hm2 : Hid (More w w2) := Hm1.out.trans m2
  have s2 : w.heap.size + 2 ≤ w2.heap.size := by have := m2.size; omega
  clear m2 h2 e0 e1 hrow1
  go_wp2_with (refine wpList_store_row rfl 70 (.tmp 8) (.tmp 30) rfl w2.heap.size (((z.setIfInBounds 0 (.slice l.ra p.rl l.rc)).setIfInBounds 1 (.slice l.ca p.cl l.cc)).setIfInBounds 402 (.int .i64 fuel)) rfl rfl 70 z (heap_alloc_last _ _) (by rw [Hc.out.size]; exact Hz.out.2.1) (by rw [Hc.out.size, Hz.out.2.2]) (Hc.out.one rfl rfl rfl rfl) ?_; rw [World.setRow_alloc_new])
  have HN0 : Hid (Nw w (w2.alloc (.cells (((z.setIfInBounds 0 (.slice l.ra p.rl l.rc)).setIfInBounds 1 (.slice l.ca p.cl l.cc)).setIfInBounds 402 (.int .i64 fuel)) 70)) (.slice l.ra p.rl l.rc) (.slice l.ca p.cl l.cc) w2.heap.size m fuel z 0 (fun _ => 0) (fun _ => 0)) :=
    ⟨Hm2.out.alloc _ _, s2, ⟨_, heap_alloc_last _ _, Hc.out⟩, fun j hj => by obtain rfl : j = 0 := by omega
                                                                             rfl, fun j hj => by omega, by rw [(World.grownBy_alloc w2 _ none).block _ (by omega) (by simp)]; exact hrow2⟩
  clear hrow2 e0' e1' hzs
  go_loopg [33] n (fun q i wr => ∃ (k : Nat) (W S : Nat → Int), k + q = n ∧ i = .int .i64 k ∧ Nw w wr (.slice l.ra p.rl l.rc) (.slice l.ca p.cl l.cc) w2.heap.size m fuel z k W S)
  case atStart => exact ⟨0, _, _, by omega, rfl, HN0.out⟩
  case round =>
    obtain ⟨k, W, S, hkq, rfl, hN⟩ := hrel
    have HNk : Hid (Nw w wr (.slice l.ra p.rl l.rc) (.slice l.ca p.cl l.cc) w2.heap.size m fuel z k W S) := hN
    clear hN HN0
    cases gk with
    | zero =>
      obtain rfl : k = n := by omega
      obtain ⟨c, hh, mc⟩ := HNk.out.at_.out
      have Hcc : Hid (MC c (.slice l.ra p.rl l.rc) (.slice l.ca p.cl l.cc) { ms0 fuel with wd := W, st := S }) := mc
      have hres := HNk.out.res
      have i70 : Hid ((Try.prog.info? 70).map (·.size) = some c.size) := by rw [show Hid ((Try.prog.info? 70).map (·.size) = some c.size) = ((Try.prog.info? 70).map (·.size) = some c.size) from rfl, Hcc.out.size]; exact Hz.out.2.1
      clear mc
      go_wp2_with (first
        | (refine wpList_load_row rfl 70 (.tmp 8) rfl w2.heap.size rfl 70 c (0, 0) _ hh Try.underlying70 rfl i70.out ?_)
        | (refine wpList_store_row rfl 70 (.tmp 6) (.tmp 57) rfl (w.heap.size + 1) c rfl rfl 70 z hres i70.out (by rw [Hcc.out.size, Hz.out.2.2]) (Hcc.out.one rfl rfl rfl rfl) ?_))
      refine bodyPost_ret (results_row_tmp rfl _ _ (w.heap.size + 1) 70 c (0, 0) _ rfl (setRow_heap _ _ _ _ _ _ hres) Try.underlying70 rfl i70.out) rfl ?_
      rw [HP.out]
      refine ⟨c, W, S, rfl, Hcc.out, by rw [Hn.out]; exact HNk.out.st, by rw [Hn.out]; exact HNk.out.wd, ?_⟩
      exact HNk.out.more.trans_setRow (by omega)
    | succ q =>
      have hk : k < n := by omega
      have hk' : (k : Int) < (n : Int) := by omega
      have hk0 : (0 : Int) ≤ (k : Int) := by omega
      have Hk : Hid (k < m.ml ∧ m.ml ≤ 6) := ⟨by rw [Hn.out]; exact hk, by have := H.out.2.2.2.1; have h1 := this.2.1; have h2 := this.1.1; omega⟩
      obtain rfl : ma = some ⟨mb, mo, none⟩ := H.out.2.1.hm (by have := Hk.out; omega)
      have q1 := (H.out.2.1.lists.more HNk.out.more) k Hk.out.1
      dsimp only at q1
      rw [show A k = some ⟨gb k, go k, none⟩ from H.out.2.1.hg k Hk.out.1 (H.out.2.2.2.2 k Hk.out.1).1] at q1
      have Hb : Hid (baseN m.len (k + 1) ≤ 384 ∧ 0 < m.len k ∧ m.len k ≤ 64) := by
        refine ⟨?_, H.out.2.2.2.2 k Hk.out.1⟩
        have := baseN_le m.len (k + 1) (fun j hj => (H.out.2.2.2.2 j (by have := Hk.out; omega)).2)
        have := Hk.out
        omega
      have t0 : wr.cell? ⟨w2.heap.size, 404 + k, none⟩ = some (.int .i64 (baseN m.len k : Int)) := by have := (HNk.out.at_.st k (by have := Hk.out; omega)).1; dsimp only at this; rw [HNk.out.st k (Nat.le_refl _)] at this; exact this
      have Hd : Hid (∀ j, j < m.len k → Wr wr w2.heap.size (17 + (baseN m.len k + j)) (.int .i64 (W (baseN m.len k + j)))) := fun j hj => HNk.out.at_.wd _ (by have := Hb.out; simp only [baseN] at this; omega)
      obtain ⟨t1, f1'⟩ := HNk.out.at_.st (k + 1) (by have := Hk.out; omega)
      dsimp only at t1
      have Hstep : Hid (∀ v, v = (baseN m.len (k + 1) : Int) → ∃ W' S', Nw w (((wr.drew).setCells w2.heap.size (17 + baseN m.len k) (intsN (m.wd k) (m.len k))).setCell ⟨w2.heap.size, 404 + (k + 1), none⟩ (.int .i64 v)) (.slice l.ra p.rl l.rc) (.slice l.ca p.cl l.cc) w2.heap.size m fuel z (k + 1) W' S') := fun v hv => HNk.out.step (by have := Hk.out; omega) Hb.out.1 v hv
      have Hsrc : Hid (∀ j v, (intsN (m.wd k) (m.len k))[j]? = some v → wr.drew.cell? ((⟨gb k, go k, none⟩ : Addr).add j) = some v) := by
        intro j u hu
        have hj : j < m.len k := by have := (List.getElem?_eq_some_iff.1 hu).1; rw [intsN_length] at this; exact this
        rw [intsN_at _ _ j hj] at hu
        rw [Go.WideShapes.add_plain, ← Option.some.inj hu]
        exact HNk.out.more.drew.cell (H.out.2.1.words k Hk.out.1 j hj)
      obtain ⟨lo, hlo⟩ : ∃ lo, baseN m.len k = lo := ⟨_, rfl⟩
      obtain ⟨r, hr⟩ : ∃ r, m.len k = r := ⟨_, rfl⟩
      have hhi : baseN m.len (k + 1) = lo + r := by simp only [baseN, hlo, hr]
      rw [hhi, hr] at Hb
      rw [hhi, hlo, hr] at Hstep
      rw [hr] at Hsrc q1
      rw [hlo] at t0
      rw [hlo, hr] at Hd
      have Hcl : Hid (∀ j v, j < r → wr.drew.cell? ⟨w2.heap.size, 404 + k, none⟩ = some v → True) := fun _ _ _ _ => trivial
      clear hlo hr hhi
      have b1 : (lo : Int) ≤ 384 := by have := Hb.out; omega
      have b3 : (0 : Int) ≤ (lo : Int) := by omega
      have b6 : ¬ 384 = lo := by have := Hb.out; omega
      have hk7 : (k : Int) < 7 := by have := Hk.out; omega
      have hk17 : (k : Int) + 1 < 7 := by have := Hk.out; omega
      have hk10 : (0 : Int) ≤ (k : Int) + 1 := by omega
      have hkw : wrap64 ((k : Int) + 1) = (k : Int) + 1 := by unfold wrap64; have := Hk.out; omega
      have hlr : wrap64 ((lo : Int) + (r : Int)) = (lo : Int) + (r : Int) := by unfold wrap64; have := Hb.out; omega
      have ht : ((k : Int) + 1).toNat = k + 1 := by omega
      have hwr := wrapEq
      obtain ⟨y1, hy1⟩ : ∃ y, S (k + 1) = y := ⟨_, rfl⟩
      rw [hy1] at t1
      clear hy1
      have a404 : (wr.drew.setCells w2.heap.size (17 + lo) (intsN (m.wd k) r)).cell? ⟨w2.heap.size, 404 + k, none⟩ = some (.int .i64 (lo : Int)) := by
        rw [World.cell?_setCells_out _ _ _ _ _ (fun _ _ => .inr (by rw [intsN_length]; have := Hb.out; dsimp only; omega))]; exact t0
      have a405 : (wr.drew.setCells w2.heap.size (17 + lo) (intsN (m.wd k) r)).cell? ⟨w2.heap.size, 404 + (k + 1), none⟩ = some (.int .i64 y1) := by
        rw [World.cell?_setCells_out _ _ _ _ _ (fun _ _ => .inr (by rw [intsN_length]; have := Hb.out; dsimp only; omega))]; exact t1
      have g405 : (wr.drew.setCells w2.heap.size (17 + lo) (intsN (m.wd k) r)).frozen? ⟨w2.heap.size, 404 + (k + 1), none⟩ = false := by
        rw [World.frozen?_setCells]; exact f1'
      obtain ⟨SS, HS⟩ : ∃ S : World → Prop, Hid (∀ w', S w' ↔ w'.cell? ⟨w2.heap.size, 404 + k, none⟩ = some (.int .i64 (lo : Int))) := ⟨_, fun _ => Iff.rfl⟩
      have kl : ∀ i : { w' // SS w' }, i.val.cell? ⟨w2.heap.size, 404 + k, none⟩ = some (.int .i64 (lo : Int)) := fun i => (HS.out _).1 i.property
      have hne : Nonempty { w' // SS w' } := ⟨⟨wr, (HS.out _).2 t0⟩⟩
      go_wp2_with (fail)
      refine wp_region_ord (S := SS) [(0, true), (1, true), (2, true), (3, true), (4, true), (5, true), (6, true), (7, true), (8, true), (9, true), (10, true), (11, true), (12, true), (13, true), (16, true), (14, false), (15, true), (17, true), (18, false)] (by kernel_rfl) (by kernel_rfl) (by kernel_rfl) ?_ ?_
      · exact (HS.out _).2 t0
      iterate 15 (refine wpOrd_take rfl (by kernel_rfl) (fun K hK => ?_); go_simp; refine hK _ _ ?_; clear hK K)
      refine wpOrd_busy rfl (by kernel_rfl) (fun K hK => ?_)
      refine wp_copy_cells (.tmp 50) (.tmp 51) 60 60 rfl 2 Try.underlying60 info2s w2.heap.size (17 + lo) (384 - lo) (384 - lo) ⟨gb k, go k, none⟩ r (C0 k) rfl rfl (intsN (m.wd k) r) (by rw [intsN_length]; have := Hb.out; simp only [Nat.min_def]; split <;> omega) Hsrc.out (fun j hj => ?_) (fun j hj => ?_) (fun v hv => ?_) ?_
      · rw [intsN_length] at hj; rw [Nat.add_assoc]; rw [(Hd.out j hj).kept (grown_drew wr none) (by simp) |>.1]; rfl
      · rw [intsN_length] at hj; rw [Nat.add_assoc]; exact ((Hd.out j hj).kept (grown_drew wr none) (by simp)).2
      · simp [intsN] at hv; obtain ⟨j, _, rfl⟩ := hv; rfl
      rw [intsN_length]
      go_simp
      refine hK _ _ ((HS.out _).2 a404) ?_; clear hK K
      iterate 2 (refine wpOrd_take rfl (by kernel_rfl) (fun K hK => ?_); go_simp; refine hK _ _ ?_; clear hK K)
      refine wpOrd_busy rfl (by kernel_rfl) (fun K hK => ?_); go_simp
      refine hK _ _ ((HS.out _).2 (by go_simp)) ?_; clear hK K
      refine wpOrd_done ?_
      clear kl hne
      go_wp2
      go_roundg q
      case measure => omega
      case rel =>
        obtain ⟨W', S', hst⟩ := Hstep.out ((lo : Int) + (r : Int)) (by push_cast; rfl)
        exact ⟨k + 1, W', S', by omega, by first | rfl | (push_cast; rfl), hst⟩
end Go.Proofs.Ytdlhlhbbhjbkpaa
