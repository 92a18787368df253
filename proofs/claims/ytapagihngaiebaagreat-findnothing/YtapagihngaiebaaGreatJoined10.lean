/-
  The texts New, Run, SRun, SRunOk, FdRun, FdFind, HdShape, FnShape, HdPlain, FnPlain, FnLed, HdMask, one behind the other, with what is used of them.
-/
import Derived.Test.YtapagihngaiebaaGreatJoined9
import Derived.Test.YtapagihngaiebaaGreatJoined0
import Derived.Deep.LoopGhost
import Derived.Test.YtapagihngaiebaaGreatJoined7
import Derived.Test.YtapagihngaiebaaGreatJoined1
import Derived.Test.YtapagihngaiebaaGreatProg
namespace Go.Proofs.YtapagihngaiebaaGreat
set_option maxHeartbeats 4000000
section
open Go.RowKit
set_option linter.unusedSimpArgs false
set_option linter.unusedVariables false
set_option maxRecDepth 8000
theorem MC.set {c : Array Value} {rv cv rv' cv' : Value} {x x' : Ms} (h : MC c rv cv x) (j : Nat) (v : Value) (hj : j < 411) (ht : x'.tl = x.tl) (hx : ∀ i, i < 411 -> cellF rv' cv' x' i = if i = j then v else cellF rv cv x i) : MC (c.setIfInBounds j v) rv' cv' x' := by
  refine ⟨by simp [h.big], fun i hi => ?_, fun i hi => ?_⟩
  · rw [hx i hi, Array.getElem?_setIfInBounds]
    by_cases e : i = j
    · subst e
      rw [if_pos rfl, if_pos rfl, if_pos (by have := h.big; omega)]
    · rw [if_neg (fun h => e h.symm), if_neg e]
      exact h.at_ i hi
  · rw [Array.getElem?_setIfInBounds, if_neg (by omega), ht]
    exact h.tail i hi
theorem MC.first {z : Array Value} (h : MC z (.slice none 0 0) (.slice none 0 0) (ms0 0)) (rv cv : Value) (fuel : Int) : MC (((z.setIfInBounds 0 rv).setIfInBounds 1 cv).setIfInBounds 402 (V fuel)) rv cv (ms0 fuel) := by
  have h1 : MC (z.setIfInBounds 0 rv) rv (.slice none 0 0) (ms0 0) := h.set 0 rv (by omega) rfl fun i hi => by unfold cellF; by_cases e : i = 0 <;> simp [e]
  have h2 : MC ((z.setIfInBounds 0 rv).setIfInBounds 1 cv) rv cv (ms0 0) := h1.set 1 cv (by omega) rfl fun i hi => by unfold cellF; by_cases e : i = 1 <;> simp [e]
  exact h2.set 402 _ (by omega) rfl fun i hi => by unfold cellF ms0; by_cases e : i = 402 <;> simp [e]

theorem Jm9 : (Tryz.prog.info? 2).map (·.size) = some 1 := by kernel_rfl
theorem More.trans_setRow {w w' : World} {g : Nat} {c : Array Value} (h : More w w') (hg : w.heap.size <= g) : More w (w'.setRow g c) :=
  Below.trans h ⟨rfl, rfl, rfl, by simp [World.setRow], fun k hk => setRow_other w' g k c (by omega)⟩

theorem Jfy (p : Prg) (l : Loc) (m : Mem) (ml : MLoc) (fuel : Int) (w : World) (h : PIn w p l) (hm : MIn w m ml) (hok : p.Ok 8000 10) (hfit : J0t p.rl p.log m.ml m.len) (hlen : ∀ i, i < m.ml -> 0 < m.len i /\ m.len i <= 64) (f0 : 0 <= fuel) (f1 : fuel <= 40000) :
    Calls Tryz.prog 38 #[.agg #[.slice l.ra p.rl l.rc, .slice l.ca p.cl l.cc], .slice ml.ma m.ml ml.mc, V fuel] w fun e w' => ∃ (c : Array Value) (W S : Nat -> Int), e = .returned (.tuple #[.agg c, V 0]) /\ MC c (.slice l.ra p.rl l.rc) (.slice l.ca p.cl l.cc) { ms0 fuel with wd := W, st := S } /\
      (∀ j, j <= m.ml -> S j = (baseN m.len j : Int)) /\ (∀ j, j < m.ml -> ∀ i, i < m.len j -> W (baseN m.len j + i) = m.wd j i) /\ More w w' := by
  obtain ⟨z, z1, z2, z3, z4⟩ := zrow;obtain ⟨ma, mb, mo, mc, A, C0, gb, go⟩ := ml;have H : Hid (PIn w p l /\ MIn w m ⟨ma, mb, mo, mc, A, C0, gb, go⟩ /\ p.Ok 8000 10 /\ J0t p.rl p.log m.ml m.len /\ (∀ i, i < m.ml -> 0 < m.len i /\ m.len i <= 64)) := ⟨h, hm, hok, hfit, hlen⟩;have Hz : Hid (MC z (.slice none 0 0) (.slice none 0 0) (ms0 0) /\ (Tryz.prog.info? 94).map (·.size) = some 411 /\ z.size = 411) := ⟨z3, z4, z3.size rfl⟩;have hzs : z.size = 411 := z3.size rfl;have Hc : Hid (MC (((z.setIfInBounds 0 (.slice l.ra p.rl l.rc)).setIfInBounds 1 (.slice l.ca p.cl l.cc)).setIfInBounds 402 (V fuel)) (.slice l.ra p.rl l.rc) (.slice l.ca p.cl l.cc) (ms0 fuel)) := z3.first _ _ _
  obtain ⟨P, hP⟩ : ∃ P, P = fun (e : Ending) (w' : World) => ∃ (c : Array Value) (W S : Nat -> Int), e = .returned (.tuple #[.agg c, V 0]) /\ MC c (.slice l.ra p.rl l.rc) (.slice l.ca p.cl l.cc) { ms0 fuel with wd := W, st := S } /\
      (∀ j, j <= m.ml -> S j = (baseN m.len j : Int)) /\ (∀ j, j < m.ml -> ∀ i, i < m.len j -> W (baseN m.len j + i) = m.wd j i) /\ More w w' := ⟨_, rfl⟩
  rw [<- hP]
  have HP : Hid (P = fun (e : Ending) (w' : World) => ∃ (c : Array Value) (W S : Nat -> Int), e = .returned (.tuple #[.agg c, V 0]) /\ MC c (.slice l.ra p.rl l.rc) (.slice l.ca p.cl l.cc) { ms0 fuel with wd := W, st := S } /\
      (∀ j, j <= m.ml -> S j = (baseN m.len j : Int)) /\ (∀ j, j < m.ml -> ∀ i, i < m.len j -> W (baseN m.len j + i) = m.wd j i) /\ More w w') := hP
  dsimp only;obtain ⟨n, hn⟩ : ∃ n, m.ml = n := ⟨_, rfl⟩;rw [hn];have Hn : Hid (m.ml = n) := hn;clear h hm hok hfit hlen z3 z4 hP hn;have f2 : ¬ fuel < 0 := by omega
  have f3 : ¬ 40000 < fuel := by omega
  have f2' : decide (fuel < 0) = false := by simp; omega
  have f3' : decide (40000 < fuel) = false := by simp; omega
  go_enter Tryz.func38, Tryz.ntmps38;go_wp2_with (fail)
  refine (J5a p l _ (H.out.1.more (((More.refl _).alloc _ _).alloc _ _))).mono ?_;rintro e w1 ⟨r1, rfl, h1, m1⟩;obtain rfl : r1 = true := h1.2 H.out.2.2.1;have hrow1 : w1.heap[w.heap.size + 1]? = some (.cells z 94 (0, 0)) := by rw [m1.block (w.heap.size + 1) (size_alloc2 _ _ _)]; exact J1k _ _ _
  have e0 : w1.cell? ⟨w.heap.size, 0, none⟩ = some (.slice l.ra p.rl l.rc) := m1.cell (by go_simp);have e1 : w1.cell? ⟨w.heap.size, 1, none⟩ = some (.slice l.ca p.cl l.cc) := m1.cell (by go_simp);have Hm1 : Hid (More w w1) := (((More.refl _).alloc _ _).alloc _ _).trans m1;have s1 : w.heap.size + 2 <= w1.heap.size := by have := m1.size; have := size_alloc2 w (.cells #[.slice l.ra p.rl l.rc, .slice l.ca p.cl l.cc] 25) (.cells z 94); omega
  clear m1 h1;go_wp2_with (fail)
  refine (J4o l.ra p.rl l.rc l.ca p.cl l.cc ma n mc l.rb l.ro mb mo p.log p.sec A m.len C0 _ H.out.1.hr (H.out.1.regs.more Hm1.out) (by rw [<- Hn.out]; exact H.out.2.1.hm) (by rw [<- Hn.out]; exact H.out.2.1.lists.more Hm1.out)).mono ?_;rintro e w2 ⟨r2, rfl, h2, m2⟩;obtain rfl : r2 = true := h2.2 (by rw [<- Hn.out]; exact H.out.2.2.2.1);have hrow2 : w2.heap[w.heap.size + 1]? = some (.cells z 94 (0, 0)) := by rw [m2.block (w.heap.size + 1) (by omega)]; exact hrow1
  have e0' := m2.cell e0;have e1' := m2.cell e1;have Hm2 : Hid (More w w2) := Hm1.out.trans m2;have s2 : w.heap.size + 2 <= w2.heap.size := by have := m2.size; omega
  clear m2 h2 e0 e1 hrow1;go_wp2_with (refine wpList_store_row rfl 94 (.tmp 8) (.tmp 30) rfl w2.heap.size (((z.setIfInBounds 0 (.slice l.ra p.rl l.rc)).setIfInBounds 1 (.slice l.ca p.cl l.cc)).setIfInBounds 402 (V fuel)) rfl rfl 94 z (heap_alloc_last _ _) (by rw [Hc.out.size rfl]; exact Hz.out.2.1) (by rw [Hc.out.size rfl, Hz.out.2.2]) (Hc.out.one rfl rfl rfl rfl rfl) ?_; rw [World.setRow_alloc_new])
  have HN0 : Hid (Nw w (w2.alloc (.cells (((z.setIfInBounds 0 (.slice l.ra p.rl l.rc)).setIfInBounds 1 (.slice l.ca p.cl l.cc)).setIfInBounds 402 (V fuel)) 94)) (.slice l.ra p.rl l.rc) (.slice l.ca p.cl l.cc) w2.heap.size m fuel z 0 (fun _ => 0) (fun _ => 0)) :=
    ⟨Hm2.out.alloc _ _, s2, ⟨_, heap_alloc_last _ _, Hc.out⟩, fun j hj => by obtain rfl : j = 0 := by omega
                                                                             rfl, fun j hj => by omega, by rw [(World.grownBy_alloc w2 _ none).block _ (by omega) (by simp)]; exact hrow2⟩
  clear hrow2 e0' e1' hzs;go_loopg [33] n (fun q i wr => ∃ (k : Nat) (W S : Nat -> Int), k + q = n /\ i = V k /\ Nw w wr (.slice l.ra p.rl l.rc) (.slice l.ca p.cl l.cc) w2.heap.size m fuel z k W S)
  case atStart => exact ⟨0, _, _, by omega, rfl, HN0.out⟩
  case round =>
    obtain ⟨k, W, S, hkq, rfl, hN⟩ := hrel;have HNk : Hid (Nw w wr (.slice l.ra p.rl l.rc) (.slice l.ca p.cl l.cc) w2.heap.size m fuel z k W S) := hN;clear hN HN0;cases gk with
    | zero =>
      obtain rfl : k = n := by omega
      obtain ⟨c, hh, mc⟩ := HNk.out.at_.out;have Hcc : Hid (MC c (.slice l.ra p.rl l.rc) (.slice l.ca p.cl l.cc) { ms0 fuel with wd := W, st := S }) := mc;have hres := HNk.out.res;have i70 : Hid ((Tryz.prog.info? 94).map (·.size) = some c.size) := by rw [show Hid ((Tryz.prog.info? 94).map (·.size) = some c.size) = ((Tryz.prog.info? 94).map (·.size) = some c.size) from rfl, Hcc.out.size rfl]; exact Hz.out.2.1
      clear mc
      go_wp2_with (first
        | (refine wpList_load_row rfl 94 (.tmp 8) rfl w2.heap.size rfl 94 c (0, 0) _ hh Tryz.underlying94 rfl i70.out ?_)
        | (refine wpList_store_row rfl 94 (.tmp 6) (.tmp 57) rfl (w.heap.size + 1) c rfl rfl 94 z hres i70.out (by rw [Hcc.out.size rfl, Hz.out.2.2]) (Hcc.out.one rfl rfl rfl rfl rfl) ?_))
      refine bodyPost_ret (J1t rfl _ _ (w.heap.size + 1) 94 c (0, 0) _ rfl (setRow_heap _ _ _ _ _ _ hres) Tryz.underlying94 rfl i70.out) rfl ?_;rw [HP.out];refine ⟨c, W, S, rfl, Hcc.out, by rw [Hn.out]; exact HNk.out.st, by rw [Hn.out]; exact HNk.out.wd, ?_⟩;exact HNk.out.more.trans_setRow (by omega)
    | succ q =>
      have hk : k < n := by omega
      have hk' : (k : Int) < (n : Int) := by omega
      have hk0 : (0 : Int) <= (k : Int) := by omega
      have Hk : Hid (k < m.ml /\ m.ml <= 6) := ⟨by rw [Hn.out]; exact hk, by have := H.out.2.2.2.1; have h1 := this.2.1; have h2 := this.1.1; omega⟩;obtain rfl : ma = some ⟨mb, mo, none⟩ := H.out.2.1.hm (by have := Hk.out; omega);have q1 := (H.out.2.1.lists.more HNk.out.more) k Hk.out.1;dsimp only at q1;rw [show A k = some ⟨gb k, go k, none⟩ from H.out.2.1.hg k Hk.out.1 (H.out.2.2.2.2 k Hk.out.1).1] at q1
      have Hb : Hid (baseN m.len (k + 1) <= 384 /\ 0 < m.len k /\ m.len k <= 64) := by
        refine ⟨?_, H.out.2.2.2.2 k Hk.out.1⟩;have := J8c m.len (k + 1) (fun j hj => (H.out.2.2.2.2 j (by have := Hk.out; omega)).2);have := Hk.out;omega
      have t0 : wr.cell? ⟨w2.heap.size, 404 + k, none⟩ = some (V (baseN m.len k : Int)) := by have := (HNk.out.at_.st k (by have := Hk.out; omega)).1; dsimp only at this; rw [HNk.out.st k (Nat.le_refl _)] at this; exact this
      have Hd : Hid (∀ j, j < m.len k -> Wr wr w2.heap.size (17 + (baseN m.len k + j)) (V (W (baseN m.len k + j)))) := fun j hj => HNk.out.at_.wd _ (by have := Hb.out; simp only [baseN] at this; omega)
      obtain ⟨t1, f1'⟩ := HNk.out.at_.st (k + 1) (by have := Hk.out; omega);dsimp only at t1;have Hstep : Hid (∀ v, v = (baseN m.len (k + 1) : Int) -> ∃ W' S', Nw w (((wr.drew).setCells w2.heap.size (17 + baseN m.len k) (intsN (m.wd k) (m.len k))).setCell ⟨w2.heap.size, 404 + (k + 1), none⟩ (V v)) (.slice l.ra p.rl l.rc) (.slice l.ca p.cl l.cc) w2.heap.size m fuel z (k + 1) W' S') := fun v hv => HNk.out.step (by have := Hk.out; omega) Hb.out.1 v hv
      have Hsrc : Hid (∀ j v, (intsN (m.wd k) (m.len k))[j]? = some v -> wr.drew.cell? ((⟨gb k, go k, none⟩ : Addr).add j) = some v) := by
        intro j u hu;have hj : j < m.len k := by have := (List.getElem?_eq_some_iff.1 hu).1; rw [J1s] at this; exact this
        rw [Jhm _ _ j hj] at hu;rw [Go.WideShapes.add_plain, <- Option.some.inj hu];exact HNk.out.more.drew.cell (H.out.2.1.words k Hk.out.1 j hj)
      obtain ⟨lo, hlo⟩ : ∃ lo, baseN m.len k = lo := ⟨_, rfl⟩;obtain ⟨r, hr⟩ : ∃ r, m.len k = r := ⟨_, rfl⟩;have hhi : baseN m.len (k + 1) = lo + r := by simp only [baseN, hlo, hr]
      rw [hhi, hr] at Hb;rw [hhi, hlo, hr] at Hstep;rw [hr] at Hsrc q1;rw [hlo] at t0;rw [hlo, hr] at Hd;have Hcl : Hid (∀ j v, j < r -> wr.drew.cell? ⟨w2.heap.size, 404 + k, none⟩ = some v -> True) := fun _ _ _ _ => trivial
      clear hlo hr hhi;have b1 : (lo : Int) <= 384 := by have := Hb.out; omega
      have b3 : (0 : Int) <= (lo : Int) := by omega
      have b6 : ¬ 384 = lo := by have := Hb.out; omega
      have hk7 : (k : Int) < 7 := by have := Hk.out; omega
      have hk17 : (k : Int) + 1 < 7 := by have := Hk.out; omega
      have hk10 : (0 : Int) <= (k : Int) + 1 := by omega
      have hkw : wrap64 ((k : Int) + 1) = (k : Int) + 1 := by unfold wrap64; have := Hk.out; omega
      have hlr : wrap64 ((lo : Int) + (r : Int)) = (lo : Int) + (r : Int) := by unfold wrap64; have := Hb.out; omega
      have ht : ((k : Int) + 1).toNat = k + 1 := by omega
      have hwr := J1y;obtain ⟨y1, hy1⟩ : ∃ y, S (k + 1) = y := ⟨_, rfl⟩;rw [hy1] at t1;clear hy1
      have a404 : (wr.drew.setCells w2.heap.size (17 + lo) (intsN (m.wd k) r)).cell? ⟨w2.heap.size, 404 + k, none⟩ = some (V (lo : Int)) := by
        rw [World.cell?_setCells_out _ _ _ _ _ (fun _ _ => .inr (by rw [J1s]; have := Hb.out; dsimp only; omega))]; exact t0
      have a405 : (wr.drew.setCells w2.heap.size (17 + lo) (intsN (m.wd k) r)).cell? ⟨w2.heap.size, 404 + (k + 1), none⟩ = some (V y1) := by
        rw [World.cell?_setCells_out _ _ _ _ _ (fun _ _ => .inr (by rw [J1s]; have := Hb.out; dsimp only; omega))]; exact t1
      have g405 : (wr.drew.setCells w2.heap.size (17 + lo) (intsN (m.wd k) r)).frozen? ⟨w2.heap.size, 404 + (k + 1), none⟩ = false := by
        rw [World.frozen?_setCells]; exact f1'
      obtain ⟨SS, HS⟩ : ∃ S : World -> Prop, Hid (∀ w', S w' ↔ w'.cell? ⟨w2.heap.size, 404 + k, none⟩ = some (V (lo : Int))) := ⟨_, fun _ => Iff.rfl⟩;have kl : ∀ i : { w' // SS w' }, i.val.cell? ⟨w2.heap.size, 404 + k, none⟩ = some (V (lo : Int)) := fun i => (HS.out _).1 i.property
      have hne : Nonempty { w' // SS w' } := ⟨⟨wr, (HS.out _).2 t0⟩⟩;go_wp2_with (fail)
      refine J03 (S := SS) [(0, true), (1, true), (2, true), (3, true), (4, true), (5, true), (6, true), (7, true), (8, true), (9, true), (10, true), (11, true), (12, true), (13, true), (16, true), (14, false), (15, true), (17, true), (18, false)] (by kernel_rfl) (by kernel_rfl) (by kernel_rfl) ?_ ?_
      · exact (HS.out _).2 t0
      iterate 15 (refine J00 rfl (by kernel_rfl) (fun K hK => ?_); go_simp; refine hK _ _ ?_; clear hK K)
      refine J02 rfl (by kernel_rfl) (fun K hK => ?_);refine J93 (.tmp 50) (.tmp 51) 43 43 rfl 2 Tryz.underlying43 Jm9 w2.heap.size (17 + lo) (384 - lo) (384 - lo) ⟨gb k, go k, none⟩ r (C0 k) rfl rfl (intsN (m.wd k) r) (by rw [J1s]; have := Hb.out; simp only [Nat.min_def]; split <;> omega) Hsrc.out (fun j hj => ?_) (fun j hj => ?_) (fun v hv => ?_) ?_
      · rw [J1s] at hj; rw [Nat.add_assoc]; rw [(Hd.out j hj).kept (J36 wr none) (by simp) |>.1]; rfl
      · rw [J1s] at hj; rw [Nat.add_assoc]; exact ((Hd.out j hj).kept (J36 wr none) (by simp)).2
      · simp [intsN] at hv; obtain ⟨j, _, rfl⟩ := hv; rfl
      rw [J1s]
      go_simp
      refine hK _ _ ((HS.out _).2 a404) ?_; clear hK K
      iterate 2 (refine J00 rfl (by kernel_rfl) (fun K hK => ?_); go_simp; refine hK _ _ ?_; clear hK K)
      refine J02 rfl (by kernel_rfl) (fun K hK => ?_); go_simp;refine hK _ _ ((HS.out _).2 (by go_simp)) ?_; clear hK K;refine J04 ?_;clear kl hne;go_wp2;go_roundg q
      case measure => omega
      case rel =>
        obtain ⟨W', S', hst⟩ := Hstep.out ((lo : Int) + (r : Int)) (by push_cast; rfl);exact ⟨k + 1, W', S', by omega, by first | rfl | (push_cast; rfl), hst⟩
theorem J1h {P : Prop} (h : P) : Hid P := h
theorem J4h (p : Prg) (l : Loc) (ma : Option Addr) (ml mc : Nat) (sv : Value) (fuel code : Int) (w : World) (hc : ¬ code = 0)
  (hnew : ∀ w1, More w w1 -> Calls Tryz.prog 38 #[.agg #[.slice l.ra p.rl l.rc, .slice l.ca p.cl l.cc], .slice ma ml mc, Value.int .i64 fuel] w1 fun e w' => ∃ z, MC z (.slice none 0 0) (.slice none 0 0) (ms0 0) /\ e = .returned (.tuple #[.agg z, Value.int .i64 code]) /\ More w1 w') :
  Calls Tryz.prog 22 #[.agg #[.slice l.ra p.rl l.rc, .slice l.ca p.cl l.cc], .slice ma ml mc, sv, Value.int .i64 fuel] w fun e w' => e = .returned (.tuple #[.agg #[Value.int .i64 0, Value.int .i64 0, Value.int .i64 0, .slice none 0 0, .slice none 0 0], Value.int .i64 code]) /\ More w w' := by
 obtain ⟨z, z1, z2, z3, z4⟩ := zrow;have HN := J1h hnew;have Hz : Hid (MC z (.slice none 0 0) (.slice none 0 0) (ms0 0) /\ (Tryz.prog.info? 94).map (·.size) = some 411 /\ z.size = 411) := ⟨z3, z4, z3.size rfl⟩;clear hnew z3 z4;go_enter Tryz.func22, Tryz.ntmps22;go_wp2_with (fail)
 refine (HN.out _ (((More.refl _).alloc _ _).alloc _ _)).mono ?_;rintro e w1 ⟨c, mcc, rfl, m1⟩;have Hc : Hid (MC c (.slice none 0 0) (.slice none 0 0) (ms0 0)) := mcc;have s1 : w.heap.size + 2 <= w1.heap.size := by have := m1.size; have := size_alloc2 w (.cells #[.slice l.ra p.rl l.rc, .slice l.ca p.cl l.cc] 25) (.cells #[Value.int .i64 0, Value.int .i64 0, Value.int .i64 0, .slice none 0 0, .slice none 0 0] 67); omega
 have Hm1 : Hid (More w w1) := (((More.refl _).alloc _ _).alloc _ _).trans m1;obtain ⟨w3, hw3⟩ : ∃ w3, w3 = w1.alloc (.cells c 94) := ⟨_, rfl⟩;have Hw3 : Hid (w3 = w1.alloc (.cells c 94)) := hw3;have zz : ∀ j v, Wr ((w.alloc (.cells #[.slice l.ra p.rl l.rc, .slice l.ca p.cl l.cc] 25)).alloc (.cells #[Value.int .i64 0, Value.int .i64 0, Value.int .i64 0, .slice none 0 0, .slice none 0 0] 67)) (w.heap.size + 1) j v -> Wr w3 (w.heap.size + 1) j v := fun j v hv => by rw [hw3]; exact (hv.kept (m1.grow none) (by simp)).kept (World.grownBy_alloc w1 _ none) (by simp)
 obtain ⟨y0, g0⟩ := zz 0 (Value.int .i64 0) ⟨by go_simp, by go_simp⟩;obtain ⟨y1, g1⟩ := zz 1 (Value.int .i64 0) ⟨by go_simp, by go_simp⟩;obtain ⟨y2, g2⟩ := zz 2 (Value.int .i64 0) ⟨by go_simp, by go_simp⟩;obtain ⟨y3, g3⟩ := zz 3 (.slice none 0 0) ⟨by go_simp, by go_simp⟩;obtain ⟨y4, g4⟩ := zz 4 (.slice none 0 0) ⟨by go_simp, by go_simp⟩;have n1 : ¬ w1.heap.size = w.heap.size + 1 := by omega
 have n2 : ¬ w.heap.size + 1 = w1.heap.size := by omega
 clear m1 mcc zz hw3;go_wp2_with (refine wpList_store_row rfl 94 (.tmp 10) (.tmp 18) rfl w1.heap.size c rfl rfl 94 z (heap_alloc_last _ _) (by rw [Hc.out.size rfl]; exact Hz.out.2.1) (by rw [Hc.out.size rfl, Hz.out.2.2]) (Hc.out.one rfl rfl rfl rfl rfl) ?_; rw [World.setRow_alloc_new, <- Hw3.out])
 refine bodyPost_ret (v := .tuple #[.agg #[Value.int .i64 0, Value.int .i64 0, Value.int .i64 0, .slice none 0 0, .slice none 0 0], Value.int .i64 code]) (by simp [results, Tryz.results22, go_sem, *]) rfl ⟨rfl, ?_⟩;have hg : w3.grownBy (((((w3.setCell ⟨w.heap.size + 1, 0, none⟩ (Value.int .i64 0)).setCell ⟨w.heap.size + 1, 1, none⟩ (Value.int .i64 0)).setCell ⟨w.heap.size + 1, 2, none⟩ (Value.int .i64 0)).setCell ⟨w.heap.size + 1, 3, none⟩ (.slice none 0 0)).setCell ⟨w.heap.size + 1, 4, none⟩ (.slice none 0 0)) (some (w.heap.size + 1)) := J1q (J1q (J1q (J1q (J1q (J1l _ _) _ _) _ _) _ _) _ _) _ _;have h3 : More w w3 := by rw [Hw3.out]; exact Hm1.out.alloc _ _
 exact h3.grownBy hg (fun b hb => by have := Option.some.inj hb; omega)

theorem J7b (p : Prg) (l : Loc) (ma : Option Addr) (ml mc : Nat) (sa : Option Addr) (sb so sn sc : Nat) (L : List Int) (fuel : Int) (w : World) (hL : L.length = sn) (hs : SIn w sa sb so L) (hbad : ¬ ScOk L)
  (hnew : ∀ w1, More w w1 -> Calls Tryz.prog 38 #[.agg #[.slice l.ra p.rl l.rc, .slice l.ca p.cl l.cc], .slice ma ml mc, Value.int .i64 fuel] w1 fun e w' => ∃ c rv cv x, x.tl 411 = none /\ rv.oneCell' = true /\ cv.oneCell' = true /\ x.sv.oneCell' = true /\ x.mv.oneCell' = true /\ MC c rv cv x /\ e = .returned (.tuple #[.agg c, Value.int .i64 0]) /\ More w1 w') :
  Calls Tryz.prog 22 #[.agg #[.slice l.ra p.rl l.rc, .slice l.ca p.cl l.cc], .slice ma ml mc, .slice sa sn sc, Value.int .i64 fuel] w fun e w' => e = .returned (.tuple #[.agg #[Value.int .i64 0, Value.int .i64 0, Value.int .i64 0, .slice none 0 0, .slice none 0 0], Value.int .i64 3]) /\ More w w' := by
 obtain ⟨z, z1, z2, z3, z4⟩ := zrow;have HN := J1h hnew;have HS := J1h (And.intro hL (And.intro hs hbad));have Hz : Hid (MC z (.slice none 0 0) (.slice none 0 0) (ms0 0) /\ (Tryz.prog.info? 94).map (·.size) = some 411 /\ z.size = 411) := ⟨z3, z4, z3.size rfl⟩;clear hnew z3 z4 hL hs hbad;go_enter Tryz.func22, Tryz.ntmps22;go_wp2_with (fail)
 refine (HN.out _ (((More.refl _).alloc _ _).alloc _ _)).mono ?_;rintro e w1 ⟨c, rv, cv, x, hx1, hx2, hx3, hx4, hx5, mcc, rfl, m1⟩;have Hc := J1h (And.intro mcc (And.intro (mcc.size hx1) (mcc.one hx2 hx3 hx4 hx5 hx1)));have s1 : w.heap.size + 2 <= w1.heap.size := by have := m1.size; have := size_alloc2 w (.cells #[.slice l.ra p.rl l.rc, .slice l.ca p.cl l.cc] 25) (.cells #[Value.int .i64 0, Value.int .i64 0, Value.int .i64 0, .slice none 0 0, .slice none 0 0] 67); omega
 have Hm1 : Hid (More w w1) := (((More.refl _).alloc _ _).alloc _ _).trans m1;obtain ⟨w3, hw3⟩ : ∃ w3, w3 = w1.alloc (.cells c 94) := ⟨_, rfl⟩;have Hw3 : Hid (w3 = w1.alloc (.cells c 94)) := hw3;have zz : ∀ j v, Wr ((w.alloc (.cells #[.slice l.ra p.rl l.rc, .slice l.ca p.cl l.cc] 25)).alloc (.cells #[Value.int .i64 0, Value.int .i64 0, Value.int .i64 0, .slice none 0 0, .slice none 0 0] 67)) (w.heap.size + 1) j v -> Wr w3 (w.heap.size + 1) j v := fun j v hv => by rw [hw3]; exact (hv.kept (m1.grow none) (by simp)).kept (World.grownBy_alloc w1 _ none) (by simp)
 obtain ⟨y0, g0⟩ := zz 0 (Value.int .i64 0) ⟨by go_simp, by go_simp⟩;obtain ⟨y1, g1⟩ := zz 1 (Value.int .i64 0) ⟨by go_simp, by go_simp⟩;obtain ⟨y2, g2⟩ := zz 2 (Value.int .i64 0) ⟨by go_simp, by go_simp⟩;obtain ⟨y3, g3⟩ := zz 3 (.slice none 0 0) ⟨by go_simp, by go_simp⟩;obtain ⟨y4, g4⟩ := zz 4 (.slice none 0 0) ⟨by go_simp, by go_simp⟩;have n1 : ¬ w1.heap.size = w.heap.size + 1 := by omega
 have n2 : ¬ w.heap.size + 1 = w1.heap.size := by omega
 have h3 : More w w3 := by rw [hw3]; exact Hm1.out.alloc _ _
 have hA := J5s sa sb so sn sc L HS.out.1 w3 (HS.out.2.1.more h3);have HA := J1h hA;have H3 := J1h h3;clear m1 mcc zz hw3 hx1 hx2 hx3 hx4 hx5 hA h3;go_wp2_with (refine wpList_store_row rfl 94 (.tmp 10) (.tmp 18) rfl w1.heap.size c rfl rfl 94 z (heap_alloc_last _ _) (by rw [Hc.out.2.1]; exact Hz.out.2.1) (by rw [Hc.out.2.1, Hz.out.2.2]) Hc.out.2.2 ?_; rw [World.setRow_alloc_new, <- Hw3.out])
 refine HA.out.mono ?_;rintro e w4 ⟨r, rfl, hr, rfl⟩;cases r with
 | true => exact absurd (hr.1 rfl) HS.out.2.2
 | false =>
  clear hr HA;go_wp2;refine bodyPost_ret (v := .tuple #[.agg #[Value.int .i64 0, Value.int .i64 0, Value.int .i64 0, .slice none 0 0, .slice none 0 0], Value.int .i64 3]) (by simp [results, Tryz.results22, go_sem, *]) rfl ⟨rfl, ?_⟩;have hg : w4.grownBy (((((w4.setCell ⟨w.heap.size + 1, 0, none⟩ (Value.int .i64 0)).setCell ⟨w.heap.size + 1, 1, none⟩ (Value.int .i64 0)).setCell ⟨w.heap.size + 1, 2, none⟩ (Value.int .i64 0)).setCell ⟨w.heap.size + 1, 3, none⟩ (.slice none 0 0)).setCell ⟨w.heap.size + 1, 4, none⟩ (.slice none 0 0)) (some (w.heap.size + 1)) := J1q (J1q (J1q (J1q (J1q (J1l _ _) _ _) _ _) _ _) _ _) _ _;exact H3.out.grownBy hg (fun b hb => by have := Option.some.inj hb; omega)
theorem J7h {P : Program} {ops : Array Oper} {rest : List Oper} {o : Oper} {a : Act} {w : World} {Q : Exit -> Act -> World -> Prop} (hg : o.guard = none) (t : TypeId) (parts : Array (Nat × Operand)) (ho : o.op = .build t parts) (C : Array Value)
  (hf : P.built t (parts.map fun (i, x) => (i, a.eval x)).toList = some C) (h : wpList P ops Q rest (a.put o.dst (.agg C)) w) : wpList P ops Q (o :: rest) a w := by
 refine wpList_plain hg fun K hK => ?_
 unfold Oper.wp execOp;simp only [ho, Sem.run_bind, run_build w t _ C hf, Result.andThen_ok];exact hK _ _ h

theorem Jmw : ∃ Z : Array Value, (∀ w, (zeroValue 103).run Tryz.prog w = .ok (.agg Z) w) /\ Z.size = 1578 /\ (Tryz.prog.info? 103).map (·.size) = some 1578 := by
 obtain ⟨h1, h2⟩ := zero_of_info Jgi;exact ⟨_, h1, by simp [rowS], h2⟩

theorem Je8 {rv cv : Value} {x : Ms} (i : Nat) (h0 : rv.oneCell' = true) (h1 : cv.oneCell' = true) (h2 : x.sv.oneCell' = true) (h3 : x.mv.oneCell' = true) : (cellF rv cv x i).oneCell' = true := by
 unfold cellF;by_cases e0 : i = 0
 ·rw [if_pos e0]; exact h0
 rw [if_neg e0];by_cases e1 : i = 1
 ·rw [if_pos e1]; exact h1
 rw [if_neg e1];by_cases e2 : i = 2
 ·rw [if_pos e2]; rfl
 rw [if_neg e2];by_cases e3 : i = 3
 ·rw [if_pos e3]; rfl
 rw [if_neg e3];by_cases e4 : i = 4
 ·rw [if_pos e4]; rfl
 rw [if_neg e4];by_cases e5 : i = 5
 ·rw [if_pos e5]; exact h2
 rw [if_neg e5];by_cases e6 : i = 6
 ·rw [if_pos e6]; exact h3
 rw [if_neg e6];by_cases e7 : i < 17
 ·rw [if_pos e7]; rfl
 rw [if_neg e7];by_cases e8 : i < 401
 ·rw [if_pos e8]; rfl
 rw [if_neg e8];by_cases e9 : i = 401
 ·rw [if_pos e9]; rfl
 rw [if_neg e9];by_cases e10 : i = 402
 ·rw [if_pos e10]; rfl
 rw [if_neg e10];by_cases e11 : i = 403
 ·rw [if_pos e11]; rfl
 rw [if_neg e11]
 rfl
theorem Jlw {q : Tl} (i : Nat) (h : q.sc.oneCell' = true) : (tlV q i).oneCell' = true := by
 unfold tlV;by_cases e0 : i = 411
 ·rw [if_pos e0]; exact h
 rw [if_neg e0];by_cases e1 : i = 412
 ·rw [if_pos e1]; rfl
 rw [if_neg e1];by_cases e2 : i < 797
 ·rw [if_pos e2]; rfl
 rw [if_neg e2];by_cases e3 : i = 797
 ·rw [if_pos e3]; rfl
 rw [if_neg e3];by_cases e4 : i < 808
 ·rw [if_pos e4]; rfl
 rw [if_neg e4];by_cases e5 : i < 1192
 ·rw [if_pos e5]; rfl
 rw [if_neg e5];by_cases e6 : i = 1192
 ·rw [if_pos e6]; rfl
 rw [if_neg e6];by_cases e7 : i < 1577
 ·rw [if_pos e7]; rfl
 rw [if_neg e7]
 rfl
theorem MC.oneS {c : Array Value} {rv cv : Value} {x : Ms} {q : Tl} (h : MC c rv cv { x with T := 103, tl := tlF q }) (hs : c.size = 1578) (h0 : rv.oneCell' = true) (h1 : cv.oneCell' = true) (h2 : x.sv.oneCell' = true) (h3 : x.mv.oneCell' = true) (h4 : q.sc.oneCell' = true) : c.all (·.oneCell') = true := by
 rw [Array.all_eq_true];intro i hi;by_cases e : i < 411
 ·have h5 := h.at_ i e
  rw [Array.getElem?_eq_getElem hi] at h5;rw [Option.some.inj h5];exact Je8 i h0 h1 h2 h3
 ·have h5 := h.tail i (by omega)
  dsimp only at h5;rw [Array.getElem?_eq_getElem hi, J7e q i (by omega)] at h5;rw [Option.some.inj h5];exact Jlw i h4

theorem Jbn (p : Prg) (l : Loc) (m : Mem) (ml : MLoc) (sa : Option Addr) (sb so sn sc : Nat) (L : List Int) (fuel : Nat) (w : World) (hp : PIn w p l) (hm : MIn w m ml) (hok : p.Ok 8000 10) (hn64 : ∀ i, i < p.cl -> B64 (p.ins i).n) (hfit : J0t p.rl p.log m.ml m.len) (hwd : ∀ j, j < m.ml -> ∀ i, i < m.len j -> B64 (m.wd j i)) (hfuel : fuel <= 40000) (hL : L.length = sn) (hcap : sn <= sc) (hs : SIn w sa sb so L) (hsok : ScOk L) :
  Calls Tryz.prog 22 #[.agg #[.slice l.ra p.rl l.rc, .slice l.ca p.cl l.cc], .slice ml.ma m.ml ml.mc, .slice sa sn sc, Value.int .i64 fuel] w fun e w' => ∃ (v : Value) (mm : Mem), e = .returned (.tuple #[v, Value.int .i64 0]) /\ J65 w' v ⟨(playS p (flatM m) L fuel).fin, (playS p (flatM m) L fuel).val, (playS p (flatM m) L fuel).steps, (playS p (flatM m) L fuel).seen, mm⟩ /\ mm.ml = m.ml /\ (∀ j, mm.len j = m.len j) /\ (∀ j, j < m.ml -> ∀ i, i < m.len j -> mm.wd j i = (playS p (flatM m) L fuel).wd (baseN m.len j + i)) /\ More w w' := by
 have hml : m.ml = p.rl := hfit.2.1;have hlen : ∀ i, i < m.ml -> (m.len i : Int) = J0c (p.log i) := fun i hi => hfit.2.2 i (by omega)
 have hpos : ∀ i, i < m.ml -> 0 < m.len i /\ m.len i <= 64 := fun i hi => by
  have h1 := hlen i hi;have h2 := hok.1.2 i (by omega);have h3 := J2h (k := (p.log i).toNat) (by omega);unfold J0c at h1;omega
 have hm6 : m.ml <= 6 := by rw [hml]; exact hok.1.1
 have hcl : 1 <= p.cl /\ p.cl <= 8000 := ⟨hok.2.1, hok.2.2.1⟩;have hall : allI p = (baseN m.len m.ml : Int) := Jm6 hml hlen
 have hble : ∀ j, j <= m.ml -> baseN m.len j <= 384 := fun j hj => by
  have h1 := J8c m.len j (fun i hi => (hpos i (by omega)).2);omega
 have hall384 : allI p <= 384 := by rw [hall]; have := hble m.ml (Nat.le_refl _); omega
 have hbase : ∀ j, j < p.rl -> 0 <= baseI p.log j /\ baseI p.log (j + 1) = baseI p.log j + J0c (p.log j) /\ 0 <= J0c (p.log j) /\ baseI p.log (j + 1) <= 384 := fun j hj => by
  have h1 := J4i p m hlen j (by omega);have h2 := J4i p m hlen (j + 1) (by omega);have h3 := hlen j (by omega);have h4 := hble (j + 1) (by omega);exact ⟨by omega, rfl, by omega, by omega⟩
 have hinv : InvS p 0 (4 * 0) ⟨⟨0, fun _ => 0, flatM m, fun _ => []⟩, false, 0, ⟨0, fun _ => 0, flatM m, fun _ => []⟩, L, []⟩ := by
  refine ⟨⟨Nat.zero_le _, fun _ _ => J1i, fun j hj => ?_, fun j => Nat.le_refl _, fun j hj v hv => by simp at hv⟩, fun a => by simp at a, Nat.le_refl _, fun c hc => ?_⟩
  ·rw [hall] at hj
   obtain ⟨c, i, h1, h2, rfl⟩ := J67 m.len m.ml j (by omega);dsimp only;rw [J60 m c i h1 h2];exact hwd c h1 i h2
  ·obtain ⟨j, hj⟩ := List.getElem?_of_mem hc
   exact hsok.2 j c hj
 obtain ⟨z, z1, z2, z3, z4⟩ := zrow;obtain ⟨Z, Z1, Z2, Z3⟩ := Jmw;have Hz : Hid (MC z (.slice none 0 0) (.slice none 0 0) (ms0 0) /\ (Tryz.prog.info? 94).map (·.size) = some 411 /\ z.size = 411) := ⟨z3, z4, z3.size rfl⟩;have HZ9 : Hid (Z.size = 1578 /\ (Tryz.prog.info? 103).map (·.size) = some 1578) := ⟨Z2, Z3⟩;obtain ⟨ra, rb, ro, rc, ca, cb, co, cc⟩ := l;obtain rfl : ca = some ⟨cb, co, none⟩ := hp.hc (by omega);dsimp only;have HP0 := J1h (And.intro hp (And.intro hok.2.2.2 hn64));have HM0 := J1h (And.intro hml (And.intro hlen (And.intro hpos (And.intro hm6 (And.intro hcl (And.intro hall (And.intro hble (And.intro hall384 (And.intro hbase hinv)))))))));have HS0 := J1h (And.intro hL (And.intro hcap (And.intro hs (And.intro hsok hfuel))))
 have HN : Hid (∀ w1, More w w1 -> Calls Tryz.prog 38 #[.agg #[.slice ra p.rl rc, .slice (some ⟨cb, co, none⟩) p.cl cc], .slice ml.ma m.ml ml.mc, Value.int .i64 fuel] w1 fun e w' => ∃ (c : Array Value) (W S : Nat -> Int), e = .returned (.tuple #[.agg c, Value.int .i64 0]) /\ MC c (.slice ra p.rl rc) (.slice (some ⟨cb, co, none⟩) p.cl cc) { ms0 fuel with wd := W, st := S } /\
   (∀ j, j <= m.ml -> S j = (baseN m.len j : Int)) /\ (∀ j, j < m.ml -> ∀ i, i < m.len j -> W (baseN m.len j + i) = m.wd j i) /\ More w1 w') :=
  fun w1 m1 => Jfy p ⟨ra, rb, ro, rc, some ⟨cb, co, none⟩, cb, co, cc⟩ m ml fuel w1 (hp.more m1) (hm.more m1) hok hfit hpos (by omega) (by omega)
 obtain ⟨R, HR⟩ : ∃ R, Hid (playS p (flatM m) L fuel = R) := ⟨_, rfl⟩;rw [HR.out]
 suffices H0 : ∀ P : Ending -> World -> Prop, (∀ e w', (∃ (v : Value) (mm : Mem), e = .returned (.tuple #[v, Value.int .i64 0]) /\ J65 w' v ⟨R.fin, R.val, R.steps, R.seen, mm⟩ /\ mm.ml = m.ml /\ (∀ j, mm.len j = m.len j) /\ (∀ j, j < m.ml -> ∀ i, i < m.len j -> mm.wd j i = R.wd (baseN m.len j + i)) /\ More w w') -> P e w') -> Calls Tryz.prog 22 #[.agg #[.slice ra p.rl rc, .slice (some ⟨cb, co, none⟩) p.cl cc], .slice ml.ma m.ml ml.mc, .slice sa sn sc, Value.int .i64 fuel] w P from H0 _ (fun _ _ h => h)
 intro P hP;have HP := J1h hP;obtain ⟨va, hva⟩ : ∃ va, ml.ma = va := ⟨_, rfl⟩;obtain ⟨vc, hvc⟩ : ∃ vc, ml.mc = vc := ⟨_, rfl⟩;rw [hva, hvc] at HN |-;clear hp hm hok hn64 hfit hwd hfuel hml hlen hpos hm6 hcl hinv z3 z4 hP hva hvc hall hble hall384 hbase hL hcap hs hsok Z2 Z3;go_enter Tryz.func22, Tryz.ntmps22;go_wp2_with (fail)
 refine (HN.out _ (((More.refl _).alloc _ _).alloc _ _)).mono ?_;rintro e w1 ⟨c, W, S, rfl, mcc, hS, hW, m1⟩;obtain ⟨w3, hw3⟩ : ∃ w3, w3 = w1.alloc (.cells c 94) := ⟨_, rfl⟩;have Hw3 : Hid (w3 = w1.alloc (.cells c 94)) := hw3;have Hc := J1h (And.intro mcc (And.intro hS (And.intro hW (And.intro (mcc.size rfl) (mcc.one rfl rfl rfl rfl rfl)))));have s1 : w.heap.size + 2 <= w1.heap.size := by have := m1.size; have := size_alloc2 w (.cells #[.slice ra p.rl rc, .slice (some ⟨cb, co, none⟩) p.cl cc] 25) (.cells #[Value.int .i64 0, Value.int .i64 0, Value.int .i64 0, .slice none 0 0, .slice none 0 0] 67); omega
 have Hm3 : Hid (More w w3) := by rw [show Hid (More w w3) = More w w3 from rfl, hw3]; exact ((((More.refl _).alloc _ _).alloc _ _).trans m1).alloc _ _
 have zz : ∀ j v, Wr ((w.alloc (.cells #[.slice ra p.rl rc, .slice (some ⟨cb, co, none⟩) p.cl cc] 25)).alloc (.cells #[Value.int .i64 0, Value.int .i64 0, Value.int .i64 0, .slice none 0 0, .slice none 0 0] 67)) (w.heap.size + 1) j v -> Wr w3 (w.heap.size + 1) j v := fun j v hv => by rw [hw3]; exact (hv.kept (m1.grow none) (by simp)).kept (World.grownBy_alloc w1 _ none) (by simp)
 have HZ : Hid (Wr w3 (w.heap.size + 1) 0 (Value.int .i64 0) /\ Wr w3 (w.heap.size + 1) 1 (Value.int .i64 0) /\ Wr w3 (w.heap.size + 1) 2 (Value.int .i64 0) /\ Wr w3 (w.heap.size + 1) 3 (.slice none 0 0) /\ Wr w3 (w.heap.size + 1) 4 (.slice none 0 0)) :=
  ⟨zz 0 _ ⟨by go_simp, by go_simp⟩, zz 1 _ ⟨by go_simp, by go_simp⟩, zz 2 _ ⟨by go_simp, by go_simp⟩, zz 3 _ ⟨by go_simp, by go_simp⟩, zz 4 _ ⟨by go_simp, by go_simp⟩⟩
 have hrow3 : w3.heap[w1.heap.size]? = some (.cells c 94 (0, 0)) := by rw [hw3]; exact heap_alloc_last _ _
 have hsz3 : w3.heap.size = w1.heap.size + 1 := by rw [hw3]; simp
 have hA := J5s sa sb so sn sc L HS0.out.1 w3 (HS0.out.2.2.1.more Hm3.out);have HA := J1h hA;obtain ⟨C, hC1, hC2, hC3⟩ := Jjy c _ _ _ Hc.out.1 rfl sa sn sc (w1.heap.size + 1);have HC := J1h (And.intro hC1 (And.intro hC2 (And.intro hC3 (hC3.oneS hC2 rfl rfl rfl rfl rfl))));have i77 : Hid ((Tryz.prog.info? 94).map (·.size) = some c.size) := by rw [show Hid ((Tryz.prog.info? 94).map (·.size) = some c.size) = ((Tryz.prog.info? 94).map (·.size) = some c.size) from rfl, Hc.out.2.2.2.1]; exact Hz.out.2.1
 have hmm := @run_makeMap Tryz.prog;clear m1 mcc zz hw3 hS hW HN hA hC1 hC2 hC3;go_wp2_with (refine wpList_store_row rfl 94 (.tmp 10) (.tmp 18) rfl w1.heap.size c rfl rfl 94 z (heap_alloc_last _ _) (by rw [Hc.out.2.2.2.1]; exact Hz.out.2.1) (by rw [Hc.out.2.2.2.1, Hz.out.2.2]) Hc.out.2.2.2.2 ?_; rw [World.setRow_alloc_new, <- Hw3.out])
 refine HA.out.mono ?_;rintro e w4 ⟨r, rfl, hr, rfl⟩;obtain rfl : r = true := hr.2 HS0.out.2.2.2.1;obtain ⟨w5, hw5⟩ : ∃ w5, w5 = (w4.alloc (.map #[] 0)).alloc (.cells C 103) := ⟨_, rfl⟩
 have hset : ((w4.alloc (.map #[] 0)).alloc (.cells Z 103)).setRow (w1.heap.size + 1 + 1) C = w5 := by
  rw [hw5, show w1.heap.size + 1 + 1 = (w4.alloc (.map #[] 0)).heap.size by simp [hsz3]];exact World.setRow_alloc_new _ _ _ _
 have hrowZ : ((w4.alloc (.map #[] 0)).alloc (.cells Z 103)).heap[w1.heap.size + 1 + 1]? = some (.cells Z 103 (0, 0)) := by rw [<- hsz3]; exact J1k _ _ _
 have Hset := J1h (And.intro hset hrowZ);have b34 : Below (w1.heap.size + 1) w4 w5 := by rw [hw5]; exact J07 (J07 (Below.refl _ _) (by omega) _) (by simp [hsz3]) _
 have HW5 := J1h b34
 have hmap5 : MapAt w5 (w1.heap.size + 1) (fun _ _ => 0) := by
  rw [hw5];have h1 := MapAt.made w4;rw [hsz3] at h1;exact h1.block ((World.grownBy_alloc _ _ none).block _ h1.lt (by simp))
 have hrun5 : RunS w5 (w1.heap.size + 1 + 1) (.slice ra p.rl rc) (.slice (some ⟨cb, co, none⟩) p.cl cc) { ms0 fuel with wd := W, st := S } (zTl (.slice sa sn sc) (w1.heap.size + 1)) [] := by
  refine ⟨⟨.slice none 0 0, ⟨C, ?_, HC.out.2.2.1⟩, World.ownsRow_nil _ _ _ _, fun q e => by cases e⟩⟩;rw [hw5, <- hsz3];exact J1k _ _ _
 have hsc5 : ScAt w5 (w1.heap.size + 1) (.slice sa sn sc) L := by
  refine ⟨sa, sc, by rw [HS0.out.1], by rw [HS0.out.1]; exact HS0.out.2.1, fun hne => ?_⟩;have hpos : 0 < L.length := List.length_pos_iff.2 hne;have hc0 := HS0.out.2.2.1.cells 0 (L[0]) (List.getElem?_eq_getElem hpos);have hlt := J06 hc0;dsimp only at hlt;refine ⟨sb, so, HS0.out.2.2.1.ha hpos, by omega, fun j c hj => ?_⟩;rw [Below.cell b34 (by dsimp only; omega)];exact Hm3.out.cell (HS0.out.2.2.1.cells j c hj)
 have HA5 : Hid (∃ (x : Ms) (q : Tl) (se : List Se) (f : Int -> Int -> Int), RunS w5 (w1.heap.size + 1 + 1) (.slice ra p.rl rc) (.slice (some ⟨cb, co, none⟩) p.cl cc) x q se /\ x.mo = [] /\ q.mb = w1.heap.size + 1 /\ MapAt w5 (w1.heap.size + 1) f /\ ((∃ s k, WayS p fuel fuel R x q f se s k /\ ScAt w5 (w1.heap.size + 1) q.sc s.script) \/ (x.ended = true /\ q.ahead = false /\ FinS p R x q se))) := by
  refine ⟨_, _, _, _, hrun5, rfl, rfl, hmap5, .inl ⟨⟨⟨0, fun _ => 0, flatM m, fun _ => []⟩, false, 0, ⟨0, fun _ => 0, flatM m, fun _ => []⟩, L, []⟩, 0, ⟨by omega, ⟨rfl, fun j hj => ?_, rfl, rfl, rfl, rfl, rfl, rfl, fun j hj => ?_, fun _ _ => rfl, fun j hj t v hv => by simp at hv, rfl, fun a => by simp at a, fun a => by simp at a, fun a => by simp at a, fun a => by simp at a, fun a => by simp at a, fun a => by simp at a, fun a => by simp at a⟩, rfl, HM0.out.2.2.2.2.2.2.2.2.2, HR.out⟩, hsc5⟩⟩
  ·rw [HM0.out.2.2.2.2.2.1] at hj
   exact Jei Hc.out.2.2.1 j (by omega)
  ·show S j = _
   rw [Hc.out.2.1 j (by rw [HM0.out.1]; exact hj)];exact J4i p m HM0.out.2.1 j (by rw [HM0.out.1]; exact hj)
 clear hr HA hw5 hset hrowZ b34 hmap5 hrun5 hsc5
 go_wp2_with (first
  | (refine wpList_load_row rfl 94 (.tmp 10) rfl w1.heap.size rfl 94 c (0, 0) _ hrow3 Tryz.underlying94 rfl i77.out ?_)
  | (refine J7h rfl 103 #[(0, .tmp 28), (1, .tmp 29), (2, .tmp 30)] rfl C (by simp [Act.eval]; exact HC.out.1) ?_)
  | (refine wpList_store_row rfl 103 (.tmp 12) (.tmp 31) rfl (w1.heap.size + 1 + 1) C rfl rfl 103 Z Hset.out.2 (by rw [HC.out.2.1]; exact HZ9.out.2) (by rw [HC.out.2.1, HZ9.out.1]) HC.out.2.2.2 ?_; rw [Hset.out.1]))
 go_simp
 obtain ⟨M, hM⟩ : ∃ M, M = w1.heap.size + 1 + 1 := ⟨_, rfl⟩;obtain ⟨mb, hmb⟩ : ∃ mb, mb = w1.heap.size + 1 := ⟨_, rfl⟩;rw [<- hM, <- hmb] at HA5;rw [<- hmb] at HW5;have HMM : Hid (M = w1.heap.size + 1 + 1 /\ mb = w1.heap.size + 1 /\ w.heap.size + 2 <= w1.heap.size) := ⟨hM, hmb, s1⟩;rw [<- hM, <- hmb];clear hM hmb hrow3 hsz3 s1 hmm Hset HC HZ9 Hz Hw3 i77 Z1 z1 z2;go_loopg [] fuel (fun g wr => ∃ (x : Ms) (q : Tl) (se : List Se) (f : Int -> Int -> Int), RunS wr M (.slice ra p.rl rc) (.slice (some ⟨cb, co, none⟩) p.cl cc) x q se /\ x.mo = [] /\ q.mb = mb /\ MapAt wr mb f /\ Below mb w4 wr /\ ((∃ s k, WayS p fuel g R x q f se s k /\ ScAt wr mb q.sc s.script) \/ (x.ended = true /\ q.ahead = false /\ FinS p R x q se)))
 case atStart =>
  obtain ⟨x, q, se, f, h1, h2, h3, h4, h5⟩ := HA5.out;exact ⟨x, q, se, f, h1, h2, h3, h4, HW5.out, h5⟩
 case round =>
  obtain ⟨x, q, se, f, hrun, hmo, hqm, hmap, hbel, hway⟩ := hrel;have hlt : mb < M := by have := HMM.out; omega
  have Hst := J1h (And.intro hrun (And.intro hmo (And.intro hqm (And.intro hmap (And.intro hbel hlt)))));have HWy := J1h hway;have HG := J1h (J79 (p := p) (fuel := fuel) (g := gk) (R := R) (f := f) (.slice ra p.rl rc) (some ⟨cb, co, none⟩) cc HS0.out.2.2.2.2 hrun (fun s => ScAt wr mb q.sc s.script) hway);clear hrun hmo hqm hmap hbel hway HA5 hlt;go_wp2_with (fail)
  refine HG.out.mono ?_;rintro e w6 ⟨b6, b, x', q', se', rfl, r6, hq1, hq2, hx1, hcase⟩;have H6 := J1h (And.intro r6 (And.intro b6 (And.intro hq1 (And.intro hq2 hx1))));clear b6 r6 HG hq1 hq2 hx1;rcases hcase with ⟨rfl, hfin⟩ | ⟨rfl, g', s, k, rfl, hkg, hsim, hse, hinv, hat, hsc, hw, hphi⟩
  ·have HF := J1h hfin
   clear hfin
   have hst2 : ∀ j, j <= p.rl -> x'.st j = (baseN m.len j : Int) := fun j hj => by
    rw [HF.out.st j hj];exact (J4i p m HM0.out.2.1 j (by rw [HM0.out.1]; exact hj)).symm
   have HT := J1h (Jg1 w6 M ra p.rl rc _ x' q' se' (baseN m.len) H6.out.1 (by rw [<- HM0.out.1]; exact HM0.out.2.2.2.1) hst2 (fun j hj => by have := (HM0.out.2.2.1 j (by rw [HM0.out.1]; exact hj)).1; simp only [baseN]; omega) (fun j hj => by have := (HM0.out.2.2.1 j (by rw [HM0.out.1]; exact hj)).2; simp only [baseN]; omega) (fun j hj => HM0.out.2.2.2.2.2.2.1 j (by rw [HM0.out.1]; exact hj)) HF.out.short);clear hst2;go_wp2_with (fail)
   refine HT.out.mono ?_;rintro e w7 ⟨v, rfl, hsh, b7⟩;have hb7 : Below mb w4 w7 := Below.trans Hst.out.2.2.2.2.1 (Below.mono (Below.trans H6.out.2.1 b7) (Nat.le_of_lt Hst.out.2.2.2.2.2));have HSH := J1h hsh;have hlt1 : w.heap.size + 1 < M := by have := HMM.out; omega
   have hlt2 : w.heap.size + 1 < mb := by have := HMM.out; omega
   obtain ⟨sv, lm, hv, hs1, hs2⟩ := hsh (w.heap.size + 1) w7 hlt1 (J1l _ _);clear hsh;dsimp only at hv;subst hv;have HB7 := J1h (And.intro hb7 (And.intro hlt1 hlt2));obtain ⟨sa', sb', so', sc', rfl, _, _, _⟩ := hs1;have kept : ∀ j v, Wr w4 (w.heap.size + 1) j v -> Wr w7 (w.heap.size + 1) j v := fun j v hv => ⟨by rw [Below.cell hb7 hlt2]; exact hv.1, by rw [World.frozen?_of_block (Below.block hb7 _ hlt2)]; exact hv.2⟩
   obtain ⟨y0, g0⟩ := kept _ _ HZ.out.1;obtain ⟨y1, g1⟩ := kept _ _ HZ.out.2.1;obtain ⟨y2, g2⟩ := kept _ _ HZ.out.2.2.1;obtain ⟨y3, g3⟩ := kept _ _ HZ.out.2.2.2.1;obtain ⟨y4, g4⟩ := kept _ _ HZ.out.2.2.2.2;clear hs2 hb7 b7 kept hlt1 hlt2 HT;obtain ⟨la, hla⟩ : ∃ la, lm.ma = la := ⟨_, rfl⟩;obtain ⟨lc, hlc⟩ : ∃ lc, lm.mc = lc := ⟨_, rfl⟩;rw [hla, hlc] at HSH |-;clear hla hlc;go_wp2;refine bodyPost_ret (v := .tuple #[.agg #[Value.int .i64 x'.fin, Value.int .i64 x'.val, Value.int .i64 x'.steps, .slice sa' se'.length sc', .slice la p.rl lc], Value.int .i64 0]) (by simp [results, Tryz.results22, go_sem, *]) rfl ?_;have hg : w7.grownBy (((((w7.setCell ⟨w.heap.size + 1, 0, none⟩ (Value.int .i64 x'.fin)).setCell ⟨w.heap.size + 1, 1, none⟩ (Value.int .i64 x'.val)).setCell ⟨w.heap.size + 1, 2, none⟩ (Value.int .i64 x'.steps)).setCell ⟨w.heap.size + 1, 3, none⟩ (.slice sa' se'.length sc')).setCell ⟨w.heap.size + 1, 4, none⟩ (.slice la p.rl lc)) (some (w.heap.size + 1)) := J1q (J1q (J1q (J1q (J1q (J1l _ _) _ _) _ _) _ _) _ _) _ _;have hsh := HSH.out (w.heap.size + 1) _ HB7.out.2.1 hg
   have esh : (⟨x'.fin, x'.val, x'.steps, se', ⟨p.rl, fun j => baseN m.len (j + 1) - baseN m.len j, fun j i => (if q'.ahead = true then q'.bw else x'.wd) (baseN m.len j + i)⟩⟩ : Sh) = ⟨R.fin, R.val, R.steps, R.seen, ⟨p.rl, fun j => baseN m.len (j + 1) - baseN m.len j, fun j i => (if q'.ahead = true then q'.bw else x'.wd) (baseN m.len j + i)⟩⟩ := by rw [HF.out.fin, HF.out.val, HF.out.steps, HF.out.seen]
   rw [esh] at hsh;have hmore : More w w7 := Below.trans Hm3.out (Below.mono HB7.out.1 (by have := HB7.out.2.2; omega));refine HP.out _ _ ⟨.agg #[Value.int .i64 x'.fin, Value.int .i64 x'.val, Value.int .i64 x'.steps, .slice sa' se'.length sc', .slice la p.rl lc], _, rfl, hsh, HM0.out.1.symm, fun j => by simp only [baseN]; omega, fun j hj i hi => ?_, hmore.grownBy hg (fun b hb => by have := Option.some.inj hb; omega)⟩;refine HF.out.wd _ ?_;rw [HM0.out.2.2.2.2.2.1];have := J33 m.len (j + 1) m.ml hj;simp only [baseN] at this;omega
  ·have hb46 : Below mb w4 w6 := Below.trans Hst.out.2.2.2.2.1 (Below.mono H6.out.2.1 (Nat.le_of_lt Hst.out.2.2.2.2.2))
   have hscx : ScAt w6 mb q'.sc (s.noneLeft p.cl).script := by
    rw [H6.out.2.2.2.1, hsc];exact hphi.below (Below.mono H6.out.2.1 (Nat.le_of_lt Hst.out.2.2.2.2.2))
   have hB : Bgn p fuel w6 M mb x' q' f (s.noneLeft p.cl) k := ⟨hsim, by rw [H6.out.2.2.1]; exact Hst.out.2.2.1, Hst.out.2.2.2.2.2, Hst.out.2.2.2.1.below H6.out.2.1 Hst.out.2.2.2.2.2, hscx, hinv, by omega, HS0.out.2.2.2.2, HM0.out.2.2.2.2.2.2.2.1, HM0.out.2.2.2.2.2.2.2.2.1, by rw [<- HM0.out.1]; exact HM0.out.2.2.2.1⟩;have hcode := HP0.out.1.code (s.noneLeft p.cl).pl.at_ hat;have hcbw : cb < w.heap.size := J06 hcode.1;have hcbm : cb < mb := by have := HMM.out; omega
   have cellsB : ∀ (o : Nat) (v : Value), w.cell? ⟨cb, o, none⟩ = some v -> w6.cell? ⟨cb, o, none⟩ = some v := fun o v hc => by
    rw [Below.cell hb46 hcbm]; exact Hm3.out.cell hc
   rw [hse] at H6;have HSp := J1h (J8w ra rc cb co cc hB hat HM0.out.2.2.2.2.1.2 (by have := Hst.out.2.2.2.2.2; omega) (HP0.out.2.1 _ hat) (HP0.out.2.2 _ hat) ⟨cellsB _ _ hcode.1, cellsB _ _ hcode.2.1, cellsB _ _ hcode.2.2.1, cellsB _ _ hcode.2.2.2.1, cellsB _ _ hcode.2.2.2.2⟩ H6.out.1);have HWW := J1h (And.intro hw (And.intro hat hb46));clear hw hat hsim hse hinv hsc hphi hB hcode hcbw hcbm cellsB hscx hb46 hkg;go_wp2_with (fail)
   refine HSp.out.mono ?_;rintro e w8 ⟨rfl, b8, x2, q2, se2, ht, r8⟩;have hnx := Jgb HS0.out.2.2.2.2 HWW.out.1 HWW.out.2.1 (HP0.out.2.1 _ HWW.out.2.1) (HP0.out.2.2 _ HWW.out.2.1) ht;have H8 := J1h (And.intro r8 (And.intro (Below.trans HWW.out.2.2 b8) hnx));clear r8 b8 ht hnx HSp;go_wp2;go_roundg g'
   case measure => omega
   case rel =>
    obtain ⟨f', h1, h2, h3⟩ := H8.out.2.2;refine ⟨{ x2 with mo := x'.mo }, q2, se2, f', H8.out.1, ?_, h1, h2, H8.out.2.1, ?_⟩
    ·show x'.mo = []
     rw [H6.out.2.2.2.2]; exact Hst.out.2.1
    ·rcases h3 with ⟨s', k', h4, h5⟩ | ⟨h4, h5, h6⟩
     ·exact .inl ⟨s', k', h4.mos _, h5⟩
     ·exact .inr ⟨h4, h5, h6.mos _⟩
theorem J5t (p : Prg) (l : Loc) (m : Mem) (ml : MLoc) (sa : Option Addr) (sb so sn sc : Nat) (L : List Int) (fuel : Int) (w : World) (hp : PIn w p l) (hfit : p.Fit) (hm : MRaw w m ml) (hwd : ∀ j, j < m.ml -> ∀ i, i < m.len j -> B64 (m.wd j i)) (hL : L.length = sn) (hcap : sn <= sc) (hsin : SIn w sa sb so L) :
  Calls Tryz.prog 22 #[.agg #[.slice l.ra p.rl l.rc, .slice l.ca p.cl l.cc], .slice ml.ma m.ml ml.mc, .slice sa sn sc, V fuel] w (Jc5 p m L fuel w) := by
 have bad : ∀ code : Int, ¬ code = 0 -> Wr1 p m L fuel code -> ∀ e w', e = .returned (.tuple #[.agg #[V 0, V 0, V 0, .slice none 0 0, .slice none 0 0], V code]) /\ More w w' -> Jc5 p m L fuel w e w' := by
  rintro code hc hw e w' ⟨rfl, mm⟩;exact ⟨0, 0, 0, code, none, 0, 0, none, 0, 0, rfl, hw, fun h => absurd h hc, mm⟩
 by_cases hok : p.Ok 8000 10 /\ J0t p.rl p.log m.ml m.len
 ·by_cases hf : fuel < 0 \/ 40000 < fuel
  ·exact (J4h p l ml.ma m.ml ml.mc _ fuel 3 w (by decide) (fun w2 m2 => J8u p l ml.ma m.ml ml.mc ml.mb ml.mo ml.A m.len ml.C fuel w2 (hp.more m2) hm.hm (hm.lists.more m2) hok.1 hok.2 hf)).mono (bad 3 (by decide) (.inr (.inl ⟨hok, .inl hf, rfl⟩)))
  ·obtain ⟨f, rfl⟩ : ∃ f : Nat, fuel = f := ⟨fuel.toNat, by omega⟩
   obtain ⟨hpos, h6⟩ := Jh5 hok.1 hok.2;have hin := hm.in_ h6 (fun i hi => (hpos i hi).2);have hn : ∀ i, i < p.cl -> B64 (p.ins i).n := fun i hi => (hfit.ins i hi).2.2.2.2
   by_cases hsok : ScOk L
   ·refine (Jbn p l m ml sa sb so sn sc L f w hp hin hok.1 hn hok.2 hwd (by omega) hL hcap hsin hsok).mono ?_
    rintro e w' ⟨v, mm, rfl, ⟨sv, lv, rfl, hs, _⟩, _, _, _, m2⟩;have hs0 := hs;obtain ⟨a, b, o, c, rfl, _⟩ := hs;exact ⟨_, _, _, _, _, _, _, _, _, _, rfl, .inr (.inr ⟨hok, hf, hsok, rfl⟩), fun _ => ⟨rfl, hs0⟩, m2⟩
   ·refine (J7b p l ml.ma m.ml ml.mc sa sb so sn sc L f w hL hsin hsok (fun w2 m2 => ?_)).mono (bad 3 (by decide) (.inr (.inl ⟨hok, .inr hsok, rfl⟩)))
    refine (Jfy p l m ml f w2 (hp.more m2) (hin.more m2) hok.1 hok.2 hpos (by omega) (by omega)).mono ?_;rintro e w' ⟨c, W, S, rfl, mcc, hS, hW, m3⟩;exact ⟨c, _, _, _, rfl, rfl, rfl, rfl, rfl, mcc, rfl, m3⟩
 ·exact (J4h p l ml.ma m.ml ml.mc _ fuel 2 w (by decide) (fun w2 m2 => Ja5 p l ml.ma m.ml ml.mc ml.mb ml.mo ml.A m.len ml.C fuel w2 (hp.more m2) hm.hm (hm.lists.more m2) hok)).mono (bad 2 (by decide) (.inl ⟨hok, rfl⟩))
theorem SeenAt.put {w : World} {n : Nat} {a a' : Option Addr} {k c k' c' : Nat} {T : TypeId} {u : Value} {l : List Se} (hs : SeenAt w u l) (h : Blk w n #[.slice a k c, .slice a' k' c'] T) (j : Nat) (v : Value) : SeenAt (w.setCell ⟨n, j, none⟩ v) u l := by
 obtain ⟨x, b, o, y, e, h1, h2, h3⟩ := hs;refine ⟨x, b, o, y, e, h1, fun i s hi => ?_, h3⟩;have q := h2 i s hi
 have key : ∀ (f : Nat) (z : Int), w.cell? ⟨b, f, none⟩ = some (V z) -> (w.setCell ⟨n, j, none⟩ v).cell? ⟨b, f, none⟩ = some (V z) := fun f z hz => by
  have hne : b ≠ n := by
   rintro rfl;rw [cell_of_row _ _ _ _ _ _ h] at hz
   match f with
   | 0 => simp at hz
   | 1 => simp at hz
   | f + 2 => simp at hz
  have e1 : (w.setCell ⟨n, j, none⟩ v).heap[b]? = w.heap[b]? := Below.heap_setCell _ _ _ _ hne;unfold World.cell? at hz |-;rw [e1]; exact hz
 exact ⟨key _ _ q.1, key _ _ q.2.1, key _ _ q.2.2⟩

def FAt (N : Nat) (A B : Prop) (X Y : List Se) (w : World) (k : Nat) (wr : World) : Prop :=
 More w wr /\ ∃ (a a' : Option Addr) (n c n' c' : Nat), Blk wr N #[.slice a n c, .slice a' n' c'] 64 /\ (0 < k -> A /\ SeenAt wr (.slice a n c) X) /\ (1 < k -> B /\ SeenAt wr (.slice a' n' c') Y)

theorem Jd7 (p : Prg) (l : Loc) (m m' : Mem) (ml ml' : MLoc) (sa : Option Addr) (sb so sn sc : Nat) (L : List Int) (fuel : Int) (w : World) (hp : PIn w p l) (hfit : p.Fit) (hm : MRaw w m ml) (hwd : ∀ j, j < m.ml -> ∀ i, i < m.len j -> B64 (m.wd j i)) (hm' : MRaw w m' ml') (hwd' : ∀ j, j < m'.ml -> ∀ i, i < m'.len j -> B64 (m'.wd j i)) (hL : L.length = sn) (hcap : sn <= sc) (hsin : SIn w sa sb so L) :
  Calls Tryz.prog 10 #[.agg #[.slice l.ra p.rl l.rc, .slice l.ca p.cl l.cc], .slice ml.ma m.ml ml.mc, .slice ml'.ma m'.ml ml'.mc, .slice sa sn sc, V fuel] w (Je2 p m m' L fuel w) := by
 suffices hP : ∀ P : Ending -> World -> Prop, (∀ k is c w', J5j p m m' L fuel k is c -> More w w' -> P (.returned (.tuple #[V k, .bool is, V c])) w') -> Calls Tryz.prog 10 #[.agg #[.slice l.ra p.rl l.rc, .slice l.ca p.cl l.cc], .slice ml.ma m.ml ml.mc, .slice ml'.ma m'.ml ml'.mc, .slice sa sn sc, V fuel] w P from hP _ (fun k is c w' h1 h2 => ⟨k, is, c, rfl, h1, h2⟩)
 intro P hP0;have HP : Hid (∀ k is c w', J5j p m m' L fuel k is c -> More w w' -> P (.returned (.tuple #[V k, .bool is, V c])) w') := hP0;have CA : Hid (∀ w1, More w w1 -> Calls Tryz.prog 22 #[.agg #[.slice l.ra p.rl l.rc, .slice l.ca p.cl l.cc], .slice ml.ma m.ml ml.mc, .slice sa sn sc, V fuel] w1 (Jc5 p m L fuel w1)) := fun w1 m1 => J5t p l m ml sa sb so sn sc L fuel w1 (hp.more m1) hfit (hm.more m1) hwd hL hcap (hsin.more m1)
 have CB : Hid (∀ w1, More w w1 -> Calls Tryz.prog 22 #[.agg #[.slice l.ra p.rl l.rc, .slice l.ca p.cl l.cc], .slice ml'.ma m'.ml ml'.mc, .slice sa sn sc, V fuel] w1 (Jc5 p m' L fuel w1)) := fun w1 m1 => J5t p l m' ml' sa sb so sn sc L fuel w1 (hp.more m1) hfit (hm'.more m1) hwd' hL hcap (hsin.more m1)
 clear hP0 hp hfit hm hwd hm' hwd' hL hcap hsin;obtain ⟨ra, Hra⟩ : ∃ x, Hid (l.ra = x) := ⟨_, rfl⟩;obtain ⟨rl, Hrl⟩ : ∃ x, Hid (p.rl = x) := ⟨_, rfl⟩;obtain ⟨rc, Hrc⟩ : ∃ x, Hid (l.rc = x) := ⟨_, rfl⟩;obtain ⟨ca, Hca⟩ : ∃ x, Hid (l.ca = x) := ⟨_, rfl⟩;obtain ⟨cl, Hcl⟩ : ∃ x, Hid (p.cl = x) := ⟨_, rfl⟩;obtain ⟨cc, Hcc⟩ : ∃ x, Hid (l.cc = x) := ⟨_, rfl⟩;obtain ⟨a1, Ha1⟩ : ∃ x, Hid (ml.ma = x) := ⟨_, rfl⟩;obtain ⟨n1, Hn1⟩ : ∃ x, Hid (m.ml = x) := ⟨_, rfl⟩;obtain ⟨c1, Hc1⟩ : ∃ x, Hid (ml.mc = x) := ⟨_, rfl⟩;obtain ⟨a2, Ha2⟩ : ∃ x, Hid (ml'.ma = x) := ⟨_, rfl⟩;obtain ⟨n2, Hn2⟩ : ∃ x, Hid (m'.ml = x) := ⟨_, rfl⟩;obtain ⟨c2, Hc2⟩ : ∃ x, Hid (ml'.mc = x) := ⟨_, rfl⟩;obtain ⟨sv, Hsv⟩ : ∃ x, Hid (Value.slice sa sn sc = x) := ⟨_, rfl⟩;rw [Hra.out, Hrl.out, Hrc.out, Hca.out, Hcl.out, Hcc.out, Hsv.out] at CA CB |-;rw [Ha1.out, Hn1.out, Hc1.out] at CA |-;rw [Ha2.out, Hn2.out, Hc2.out] at CB |-;obtain ⟨N, hN⟩ : ∃ x, w.heap.size = x := ⟨_, rfl⟩;obtain ⟨w0, Hw0⟩ : ∃ w_ : World, Hid (w_ = (w.alloc (.cells #[.slice ra rl rc, .slice ca cl cc] 25)).alloc (.cells #[.slice none 0 0, .slice none 0 0] 64)) := ⟨_, rfl⟩;have Hm0 : Hid (More w w0) := Hw0.out ▸ ((More.refl _).alloc _ _).alloc _ _;have Hp0 : Hid (Blk w0 N #[.slice ra rl rc, .slice ca cl cc] 25) := hN ▸ Hw0.out ▸ (Blk.last _ _ _).alloc _ _
 have Hs0 : Hid (Blk w0 (N + 1) #[.slice none 0 0, .slice none 0 0] 64) := by
  have q := Blk.last (w.alloc (.cells #[.slice ra rl rc, .slice ca cl cc] 25)) #[.slice none 0 0, .slice none 0 0] 64;rw [<- Hw0.out, show (w.alloc (.cells #[.slice ra rl rc, .slice ca cl cc] 25)).heap.size = N + 1 from by simp [hN]] at q;exact q
 have HN : Hid (w.heap.size = N) := hN;go_enter Tryz.func10, Tryz.ntmps10;go_wp2
 try simp only [hN]
 rw [<- Hw0.out];clear hN;obtain ⟨X, HX⟩ : ∃ x, Hid ((playS p (flatM m) L fuel.toNat).seen = x) := ⟨_, rfl⟩;obtain ⟨Y, HY⟩ : ∃ x, Hid ((playS p (flatM m') L fuel.toNat).seen = x) := ⟨_, rfl⟩;have hi0 : ∀ w, (Instr.index 65 (.agg #[.slice a1 n1 c1, .slice a2 n2 c2]) (V 0)).run Tryz.prog w = .ok (.slice a1 n1 c1) w := fun _ => by kernel_rfl
 have hi1 : ∀ w, (Instr.index 65 (.agg #[.slice a1 n1 c1, .slice a2 n2 c2]) (V 1)).run Tryz.prog w = .ok (.slice a2 n2 c2) w := fun _ => by kernel_rfl
 go_loopg [23] 2 (fun g iv wr => ∃ k : Nat, k + g = 2 /\ iv = V k /\ Hid (FAt (N + 1) (Wr1 p m L fuel 0) (Wr1 p m' L fuel 0) X Y w k wr /\ Blk wr N #[.slice ra rl rc, .slice ca cl cc] 25))
 case atStart => exact ⟨0, rfl, rfl, ⟨Hm0.out, _, _, _, _, _, _, Hs0.out, fun h => absurd h (by decide), fun h => absurd h (by decide)⟩, Hp0.out⟩
 case round =>
  obtain ⟨k, hkg, rfl, Hr⟩ := hrel
  have hcase : gk = 0 /\ k = 2 \/ ∃ (q : Nat) (v : Value) (W : Int -> Prop) (Z : List Se), gk = q + 1 /\ ((k = 0 /\ v = .slice a1 n1 c1) \/ (k = 1 /\ v = .slice a2 n2 c2)) /\ Hid ((∀ w1, More w w1 -> Calls Tryz.prog 22 #[.agg #[.slice ra rl rc, .slice ca cl cc], v, sv, V fuel] w1 fun e w' => ∃ (x1 x2 x3 code : Int) (a : Option Addr) (n c : Nat) (a' : Option Addr) (n' c' : Nat), e = .returned (.tuple #[.agg #[V x1, V x2, V x3, .slice a n c, .slice a' n' c'], V code]) /\ W code /\ (code = 0 -> SeenAt w' (.slice a n c) Z) /\ More w1 w') /\ (∀ c w', ¬ c = 0 -> W c -> More w w' -> P (.returned (.tuple #[V 0, .bool false, V c])) w') /\ ∀ (w1 : World) (a : Option Addr) (n c : Nat) (T : TypeId) (cs : Array Value), W 0 -> More wr w1 -> SeenAt w1 (.slice a n c) Z -> FAt (N + 1) (Wr1 p m L fuel 0) (Wr1 p m' L fuel 0) X Y w (k + 1) ((w1.setCell ⟨N + 1, k, none⟩ (.slice a n c)).alloc (.cells cs T))) := by
   have hm0 := Hr.out.1.1;have hN : w.heap.size <= N + 1 := by have := HN.out; omega
   rcases gk with _ | q
   ·exact .inl ⟨rfl, by omega⟩
   ·have hk : k = 0 \/ k = 1 := by omega
    rcases hk with rfl | rfl
    ·refine .inr ⟨q, _, Wr1 p m L fuel, X, rfl, .inl ⟨rfl, rfl⟩, fun w1 m1 => (CA.out w1 m1).mono ?_, fun c w' h0 hw mm => HP.out 0 false c w' ⟨c, hw, .inl ⟨h0, rfl, rfl, rfl⟩⟩ mm, ?_⟩
     ·rintro e w' ⟨x1, x2, x3, code, a, n, c, a', n', c', rfl, hw, h0, mm⟩
      exact ⟨x1, x2, x3, code, a, n, c, a', n', c', rfl, hw, fun h => HX.out ▸ (h0 h).2, mm⟩
     ·intro w1 a n c T cs hw mm hs
      obtain ⟨⟨_, b, b', e, f, e', f', hb, _⟩, _⟩ := Hr.out;have hb1 := hb.more mm;exact ⟨((hm0.trans mm).setCell hN _).alloc _ _, a, b', n, c, e', f', (hb1.put 0 _).alloc _ _, fun _ => ⟨hw, (hs.put hb1 0 _).more ((More.refl _).alloc _ _)⟩, fun h => absurd h (by decide)⟩
    ·refine .inr ⟨q, _, Wr1 p m' L fuel, Y, rfl, .inr ⟨rfl, rfl⟩, fun w1 m1 => (CB.out w1 m1).mono ?_, fun c w' h0 hw mm => HP.out 0 false c w' ?_ mm, ?_⟩
     ·rintro e w' ⟨x1, x2, x3, code, a, n, c, a', n', c', rfl, hw, h0, mm⟩
      exact ⟨x1, x2, x3, code, a, n, c, a', n', c', rfl, hw, fun h => HY.out ▸ (h0 h).2, mm⟩
     ·obtain ⟨⟨_, b, b', e, f, e', f', hb, hA, _⟩, _⟩ := Hr.out
      exact ⟨0, (hA (by decide)).1, .inr ⟨rfl, c, hw, .inl ⟨h0, rfl, rfl, rfl⟩⟩⟩
     ·intro w1 a n c T cs hw mm hs
      obtain ⟨⟨_, b, b', e, f, e', f', hb, hA, _⟩, _⟩ := Hr.out;have hb1 := hb.more mm;have hA1 := hA (by decide);exact ⟨((hm0.trans mm).setCell hN _).alloc _ _, b, a, e, f, n, c, (hb1.put 1 _).alloc _ _, fun _ => ⟨hA1.1, ((hA1.2.more mm).put hb1 1 _).more ((More.refl _).alloc _ _)⟩, fun _ => ⟨hw, (hs.put hb1 1 _).more ((More.refl _).alloc _ _)⟩⟩
  rcases hcase with ⟨rfl, rfl⟩ | ⟨q, v, W, Z, rfl, hkv, HQ⟩
  ·obtain ⟨⟨mr, a, a', n, c, n', c', hb, h1, h2⟩, _⟩ := Hr.out
   have z1 := h1 (by decide);have z2 := h2 (by decide);have Hmr : Hid (More w wr) := mr;have Hfo : Hid (Calls Tryz.prog 23 #[.agg #[.slice a n c, .slice a' n' c']] wr fun e w' => ∃ k is, e = .returned (.tuple #[V k, .bool is]) /\ Diff X Y k is /\ More wr w') := J9j X Y a a' n n' c c' wr z1.2 z2.2;have HF : Hid (∀ k is, Diff X Y k is -> J5j p m m' L fuel k is 0) := fun k is hd => ⟨0, z1.1, .inr ⟨rfl, 0, z2.1, .inr ⟨rfl, rfl, by rw [HX.out, HY.out]; exact hd⟩⟩⟩
   have p0 : wr.cell? ⟨N + 1, 0, none⟩ = some (.slice a n c) := hb.cell rfl;have p1 : wr.cell? ⟨N + 1, 1, none⟩ = some (.slice a' n' c') := hb.cell rfl;clear z1 z2 hb h1 h2 mr CA CB hkg Hr;go_wp2_with (fail)
   refine Hfo.out.mono ?_;rintro e w1 ⟨k, is, rfl, hd, m1⟩;have Hend : Hid (P (.returned (.tuple #[V k, .bool is, V 0])) w1) := HP.out k is 0 w1 (HF.out k is hd) (Hmr.out.trans m1);clear HF hd m1 p0 p1 HP Hfo;go_wp2;exact bodyPost_ret (by simp [results, Tryz.results10, go_sem]) rfl Hend.out
  ·have p0 : wr.cell? ⟨N, 0, none⟩ = some (.slice ra rl rc) := Hr.out.2.cell rfl
   have p1 : wr.cell? ⟨N, 1, none⟩ = some (.slice ca cl cc) := Hr.out.2.cell rfl;have Hmr : Hid (More w wr) := Hr.out.1.1;clear CA CB HP;rcases hkv with ⟨rfl, rfl⟩ | ⟨rfl, rfl⟩
   all_goals
    go_wp2_with (fail)
    refine (HQ.out.1 _ Hmr.out).mono ?_;rintro e w1 ⟨x1, x2, x3, code, a, n, c, a', n', c', rfl, hw, hs, m1⟩;by_cases h0 : code = 0
    ·subst h0
     obtain ⟨⟨_, b, b', e, f, e', f', hb, _⟩, hb2⟩ := Hr.out;have Hn := HQ.out.2.2 w1 a n c 67 #[V x1, V x2, V x3, .slice a n c, .slice a' n' c'] hw m1 (hs rfl);have p0 : w1.cell? ⟨N + 1, 0, none⟩ = some (.slice b e f) := (hb.more m1).cell rfl;have p1 : w1.cell? ⟨N + 1, 1, none⟩ = some (.slice b' e' f') := (hb.more m1).cell rfl;have f0 : w1.frozen? ⟨N + 1, 0, none⟩ = false := (hb.more m1).frozen 0;have f1 : w1.frozen? ⟨N + 1, 1, none⟩ = false := (hb.more m1).frozen 1;have z0 := (hb.more m1).lt;have HB : Hid (Blk w1 N #[.slice ra rl rc, .slice ca cl cc] 25) := hb2.more m1;have HA : Hid (FAt _ _ _ _ _ _ _ _) := Hn;clear hb hb2 hw hs m1 Hr HQ Hn;go_wp2;go_roundg q
     case measure => omega
     case rel => first | exact ⟨1, by omega, rfl, HA.out, (HB.out.other (by omega) _ _).alloc _ _⟩ | exact ⟨2, by omega, rfl, HA.out, (HB.out.other (by omega) _ _).alloc _ _⟩
    ·have e0 : (code == 0) = false := by simp [h0]
     have e1 : (code != 0) = true := by simp [h0]
     have Hend : Hid (P (.returned (.tuple #[V 0, .bool false, V code])) w1) := HQ.out.2.1 code w1 h0 hw (Hmr.out.trans m1);have HE : Hid (∀ w', More w w' -> P (.returned (.tuple #[V 0, .bool false, V code])) w') := fun w' mm => HQ.out.2.1 code w' h0 hw mm
     have Hm1 : Hid (More w w1) := Hmr.out.trans m1;clear hw hs m1 h0 HQ;go_wp2;exact bodyPost_ret (by simp [results, Tryz.results10, go_sem]) rfl (HE.out _ (Hm1.out.alloc _ _))
end
section
open Go.RowKit
set_option linter.unusedSimpArgs false
set_option linter.unusedVariables false
def sizeK (p : Prg) (k : Nat) : Nat := if (p.ins k).op = 3 \/ (p.ins k).op = 4 then 3 else 1

structure Hdn (p h : Prg) (st : Nat -> Nat) (X : Int) : Prop where
  x : X = 8 \/ X = 9
  rl : p.rl = h.rl
  reg : ∀ i, i < p.rl -> p.log i = h.log i /\ p.sec i = h.sec i
  s0 : st 0 = 0
  next : ∀ k, k < p.cl -> st (k + 1) = st k + sizeK p k
  cl : h.cl = st p.cl
  mem : ∀ k, k < p.cl -> (p.ins k).op = 3 \/ (p.ins k).op = 4 -> h.ins (st k) = ⟨10, X, (p.ins k).b, 0, (p.ins k).n⟩ /\ h.ins (st k + 1) = ⟨11, X, 0, 0, J0c (p.log (p.ins k).c.toNat)⟩ /\ h.ins (st k + 2) = ⟨(p.ins k).op, (p.ins k).a, X, (p.ins k).c, 0⟩
  go : ∀ k, k < p.cl -> (p.ins k).op = 7 \/ (p.ins k).op = 8 -> h.ins (st k) = ⟨(p.ins k).op, (p.ins k).a, (p.ins k).b, (p.ins k).c, (st (p.ins k).n.toNat : Int)⟩
  copy : ∀ k, k < p.cl -> ¬ ((p.ins k).op = 3 \/ (p.ins k).op = 4) -> ¬ ((p.ins k).op = 7 \/ (p.ins k).op = 8) -> h.ins (st k) = p.ins k

theorem J0z (p : Prg) (k : Nat) : 1 <= sizeK p k /\ sizeK p k <= 3 := by unfold sizeK; split <;> omega
theorem J2b {p : Prg} {k : Nat} (h : (p.ins k).op = 3 \/ (p.ins k).op = 4) : sizeK p k = 3 := by unfold sizeK; rw [if_pos h]
theorem J2t {p : Prg} {k : Nat} (h : ¬ ((p.ins k).op = 3 \/ (p.ins k).op = 4)) : sizeK p k = 1 := by unfold sizeK; rw [if_neg h]

section
variable {p h : Prg} {st : Nat -> Nat} {X : Int} {l : KV}

theorem Hdn.mono (S : Hdn p h st X) : ∀ (b a : Nat), a < b -> b <= p.cl -> st a + sizeK p a <= st b
  | 0, a, h1, _ => absurd h1 (Nat.not_lt_zero _)
  | b + 1, a, h1, h2 => by
    have e := S.next b (by omega);have := (J0z p b).1;by_cases q : a = b
    · subst q; omega
    · have := S.mono b a (by omega) (by omega); omega
theorem Hdn.uniq (S : Hdn p h st X) {k k' o o' : Nat} (hk : k < p.cl) (hk' : k' < p.cl) (ho : o < sizeK p k) (ho' : o' < sizeK p k') (e : st k + o = st k' + o') : k = k' /\ o = o' := by
  rcases Nat.lt_trichotomy k k' with q | q | q
  · have := S.mono k' k q (by omega); omega
  · subst q; exact ⟨rfl, by omega⟩
  · have := S.mono k k' q (by omega); omega
theorem Hdn.xn (S : Hdn p h st X) : 8 <= X.toNat /\ X.toNat < 10 := by rcases S.x with q | q <;> omega

def ShI (p : Prg) (st : Nat -> Nat) (X : Int) (l : KV) (q : Nat) (r : Nat -> Int) : Prop :=
  ∃ k o s, k < p.cl /\ o < sizeK p k /\ q = st k + o /\ l k = some s /\ (o = 2 -> 0 <= r X.toNat /\ r X.toNat < J0c (p.log (p.ins k).c.toNat))
def ShSec (p : Prg) (st : Nat -> Nat) (l : KV) (q j : Nat) : Prop := ∃ k o s, k < p.cl /\ o < sizeK p k /\ q = st k + o /\ l k = some s /\ j < 8 /\ (s j).s = true

variable {lab : Nat -> Nat -> Bool}
theorem J9o (S : Hdn p h st X) (hl : ∀ q j, lab q j = true ↔ ShSec p st l q j) {k o : Nat} {s : KS} (hk : k < p.cl) (ho : o < sizeK p k) (e : l k = some s) (j : Nat) : lab (st k + o) j = true ↔ j < 8 /\ (s j).s = true := by
  rw [hl];constructor
  · rintro ⟨k', o', s', h1, h2, h3, h4, h5, h6⟩
    obtain ⟨rfl, rfl⟩ := S.uniq hk h1 ho h2 h3;rw [e] at h4; cases h4;exact ⟨h5, h6⟩
  · rintro ⟨h5, h6⟩
    exact ⟨k, o, s, hk, ho, rfl, e, h5, h6⟩
theorem J5b (S : Hdn p h st X) (hl : ∀ q j, lab q j = true ↔ ShSec p st l q j) {k o : Nat} {s : KS} (hk : k < p.cl) (ho : o < sizeK p k) (e : l k = some s) (j : Nat) : lab (st k + o) j = false ↔ (j < 8 -> (s j).s = false) := by
  have := J9o S hl hk ho e j;cases q : lab (st k + o) j with
  | true =>
    rw [q] at this;have t := this.1 rfl;exact ⟨fun w => (by cases w), fun w => absurd t.2 (by rw [w t.1]; simp)⟩
  | false =>
    rw [q] at this;refine ⟨fun _ hj => ?_, fun _ => rfl⟩;cases q2 : (s j).s with
    | false => rfl
    | true => exact absurd (this.2 ⟨hj, q2⟩) (by simp)
theorem J5z (S : Hdn p h st X) (hl : ∀ q j, lab q j = true ↔ ShSec p st l q j) {k o : Nat} {s : KS} (hk : k < p.cl) (ho : o < sizeK p k) (e : l k = some s) {r t : Nat -> Int} (hr : ∀ j, j < 10 -> lab (st k + o) j = false -> r j = t j) : EqS s r t /\ ∀ j, 8 <= j -> j < 10 -> r j = t j :=
  ⟨fun j hj q => hr j (by omega) ((J5b S hl hk ho e j).2 (fun _ => q)), fun j h8 h10 => hr j h10 ((J5b S hl hk ho e j).2 (fun q => by omega))⟩
theorem J66 (S : Hdn p h st X) (hl : ∀ q j, lab q j = true ↔ ShSec p st l q j) {k o : Nat} {s : KS} (hk : k < p.cl) (ho : o < sizeK p k) (e : l k = some s) {r t : Nat -> Int} (h1 : EqS s r t) (h2 : ∀ j, 8 <= j -> j < 10 -> r j = t j) : ∀ j, j < 10 -> lab (st k + o) j = false -> r j = t j := fun j hj q => by
  by_cases h8 : j < 8
  · exact h1 j h8 ((J5b S hl hk ho e j).1 q h8)
  · exact h2 j (by omega) hj
theorem J84 (S : Hdn p h st X) (hl : ∀ q j, lab q j = true ↔ ShSec p st l q j) {k o k' o' : Nat} {s u : KS} (hk : k < p.cl) (ho : o < sizeK p k) (e : l k = some s) (hk' : k' < p.cl) (ho' : o' < sizeK p k') (e' : l k' = some u) {j : Nat} (hu : j < 8 -> (s j).s = true -> (u j).s = true) : lab (st k + o) j = true -> lab (st k' + o') j = true := fun q => by
  have := (J9o S hl hk ho e j).1 q;exact (J9o S hl hk' ho' e' j).2 ⟨this.1, hu this.1 this.2⟩

theorem Jf3 (x y : Kn) : (Kn.less x y).s = x.s := rfl
theorem Jfz {s : KS} {a : Int} {v : Kn} (hv : v.s = (s a.toNat).s) (j : Nat) : (setK s a v j).s = (s j).s := by
  unfold setK
  split
  · rename_i e; rw [e]; exact hv
  · rfl
theorem J8f (i : Ins) (s : KS) (j : Nat) : (J1g i s j).s = (s j).s := Jfz (Jf3 _ _) j
theorem Jcz (i : Ins) (s : KS) (j : Nat) : (J11 i s j).s = (s j).s := Jfz (Jf3 _ _) j
theorem Jje (i : Ins) (s : KS) (j : Nat) : (bothK i s j).s = (s j).s := by
  unfold bothK;rw [Jfz (by rw [Jf3]; exact (J8f i s _).symm) j, J8f]
theorem yes_s (i : Ins) (s : KS) (j : Nat) : (yesK i s j).s = (s j).s := by
  unfold yesK
  split
  · exact Jje i s j
  split
  · rfl
  split
  · exact J8f i s j
  · exact Jcz i s j
theorem no_s (i : Ins) (s : KS) (j : Nat) : (noK i s j).s = (s j).s := by
  unfold noK
  split
  · rfl
  split
  · exact Jje i s j
  split
  · exact Jcz i s j
  · exact J8f i s j

structure Here (p : Prg) (l : KV) (k : Nat) (s : KS) : Prop where
  at_ : k < p.cl
  e : l k = some s
  ins : InsOk p.rl p.log p.cl 8 (p.ins k)
  out : outK p k = false
  bound : J1c p (p.ins k) s = false
  secret : J0g p (p.ins k) s = false
  leads : ∀ x ∈ J0f p k s, x.1 < p.cl -> ∃ u, l x.1 = some u /\ leS x.2 u
theorem J1o (ok : p.Ok 200 8) (hk : Known p l) (hc : (J09 p l).1 = 0) {k : Nat} {s : KS} (ha : k < p.cl) (e : l k = some s) : Here p l k s := by
  have hf := Jca hc ha e
  have : (outK p k || J1c p (p.ins k) s) = false /\ J0g p (p.ins k) s = false := by
    unfold J0p at hf;cases h1 : (outK p k || J1c p (p.ins k) s)
    · cases h2 : J0g p (p.ins k) s
      · exact ⟨rfl, rfl⟩
      · rw [h1, h2] at hf; simp at hf
    · rw [h1] at hf; simp at hf
  have h1 := Bool.or_eq_false_iff.1 this.1;exact ⟨ha, e, ok.2.2.2 k ha, h1.1, h1.2, this.2, hk.closed.leads k s ha e⟩
theorem Here.next {k : Nat} {s : KS} (H : Here p l k s) (h7 : ¬ (p.ins k).op = 7) (h9 : ¬ (p.ins k).op = 9) : k + 1 < p.cl := by
  have := H.out;unfold outK at this;simp [h7, h9] at this;omega
theorem Here.plain {k : Nat} {s : KS} (H : Here p l k s) (h7 : ¬ (p.ins k).op = 7) (h8 : ¬ (p.ins k).op = 8) (h9 : ¬ (p.ins k).op = 9) : ∃ u, l (k + 1) = some u /\ leS (nextK p (p.ins k) s) u := by
  have := H.leads (k + 1, nextK p (p.ins k) s) (by unfold J0f; rw [if_neg h7, if_neg h9, if_neg h8]; simp) (H.next h7 h9);exact this

theorem J6m (S : Hdn p h st X) {k : Nat} (hk : k < p.cl) {o : Nat} (ho : o + 1 = sizeK p k) : st k + o + 1 = st (k + 1) := by rw [S.next k hk]; omega

theorem J50 {i : Ins} (ha : i.a.toNat < 8) (r : Nat -> Int) (j : Nat) (hj : 8 <= j) : (regsI r i).1 j = r j := by
  have hs : ∀ v, setR r i.a v j = r j := fun v => by unfold setR; rw [if_neg (by omega)]
  unfold regsI
  split
  · exact hs _
  split
  · exact hs _
  split
  · exact hs _
  split
  · dsimp only; split
    · exact hs _
    · rfl
  split
  · rfl
  · exact hs _

theorem Jkh (S : Hdn p h st X) (ok : p.Ok 200 8) (hk : Known p l) (hc : (J09 p l).1 = 0) (hl : ∀ q j, lab q j = true ↔ ShSec p st l q j) (q : Nat) (h7 : (h.ins q).op = 7) (r : Nat -> Int) (hI : ShI p st X l q r) :
    (∀ j, j < 10 -> lab q j = true -> lab (h.ins q).n.toNat j = true) /\ ShI p st X l (h.ins q).n.toNat r := by
  obtain ⟨k, o, s, a1, a2, rfl, a4, a5⟩ := hI;have H := J1o ok hk hc a1 a4;by_cases m : (p.ins k).op = 3 \/ (p.ins k).op = 4
  · obtain ⟨m0, m1, m2⟩ := S.mem k a1 m
    rw [J2b m] at a2;have ho : o = 0 \/ o = 1 \/ o = 2 := by omega
    rcases ho with rfl | rfl | rfl
    · rw [Nat.add_zero, m0] at h7; dsimp only at h7; omega
    · rw [m1] at h7; dsimp only at h7; omega
    · rw [m2] at h7; dsimp only at h7; omega
  · rw [J2t m] at a2
    obtain rfl : o = 0 := by omega
    rw [Nat.add_zero] at h7 |-
    have g : (p.ins k).op = 7 := by
      by_cases w : (p.ins k).op = 7 \/ (p.ins k).op = 8
      · rw [S.go k a1 w] at h7; exact h7
      · rw [S.copy k a1 m w] at h7; exact h7
    rw [S.go k a1 (.inl g)];dsimp only;rw [Int.toNat_natCast];have hin := H.ins;unfold InsOk Plc at hin;simp [g] at hin;have hn : (p.ins k).n.toNat < p.cl := by omega
    obtain ⟨u, e, hu⟩ := H.leads ((p.ins k).n.toNat, s) (by unfold J0f; rw [if_pos g]; simp) hn;have z := (J0z p (p.ins k).n.toNat).1;refine ⟨fun j hj w => ?_, ⟨_, 0, u, hn, z, rfl, e, fun w => by cases w⟩⟩;have := J84 S hl (o := 0) (o' := 0) a1 (by rw [J2t m]; omega) a4 hn z e (j := j) (fun h8 w => (hu j h8).2 w);exact this w

theorem Jkf (S : Hdn p h st X) (ok : p.Ok 200 8) (hk : Known p l) (hc : (J09 p l).1 = 0) (hl : ∀ q j, lab q j = true ↔ ShSec p st l q j) (q : Nat) (h8 : (h.ins q).op = 8) (r : Nat -> Int) (hI : ShI p st X l q r) :
    (h.ins q).a.toNat < 10 /\ (h.ins q).b.toNat < 10 /\ lab q (h.ins q).a.toNat = false /\ lab q (h.ins q).b.toNat = false /\ (∀ j, j < 10 -> lab q j = true -> lab (h.ins q).n.toNat j = true /\ lab (q + 1) j = true) /\ ShI p st X l (h.ins q).n.toNat r /\ ShI p st X l (q + 1) r := by
  obtain ⟨k, o, s, a1, a2, rfl, a4, a5⟩ := hI;have H := J1o ok hk hc a1 a4;by_cases m : (p.ins k).op = 3 \/ (p.ins k).op = 4
  · obtain ⟨m0, m1, m2⟩ := S.mem k a1 m
    rw [J2b m] at a2;have ho : o = 0 \/ o = 1 \/ o = 2 := by omega
    rcases ho with rfl | rfl | rfl
    · rw [Nat.add_zero, m0] at h8; dsimp only at h8; omega
    · rw [m1] at h8; dsimp only at h8; omega
    · rw [m2] at h8; dsimp only at h8; omega
  · have z0 := J2t m
    rw [z0] at a2;obtain rfl : o = 0 := by omega
    rw [Nat.add_zero] at h8
    have g : (p.ins k).op = 8 := by
      by_cases w : (p.ins k).op = 7 \/ (p.ins k).op = 8
      · rw [S.go k a1 w] at h8; exact h8
      · rw [S.copy k a1 m w] at h8; exact h8
    have ei : h.ins (st k + 0) = ⟨(p.ins k).op, (p.ins k).a, (p.ins k).b, (p.ins k).c, (st (p.ins k).n.toNat : Int)⟩ := S.go k a1 (.inr g);rw [ei];dsimp only;rw [Int.toNat_natCast];have hin := H.ins;have hr := J0s hin;have ha := hr.1 (by omega);have hb := hr.2.1 (by omega);unfold InsOk Plc at hin;simp [g] at hin;have hn : (p.ins k).n.toNat < p.cl := by omega
    have hk1 := H.next (by omega) (by omega);have hs := H.secret;unfold J0g at hs;simp [g] at hs;obtain ⟨u, e, hu⟩ := H.leads ((p.ins k).n.toNat, yesK (p.ins k) s) (by unfold J0f; simp [g]) hn;obtain ⟨v, f, hv⟩ := H.leads (k + 1, noK (p.ins k) s) (by unfold J0f; simp [g]) hk1;have zu := (J0z p (p.ins k).n.toNat).1;have zv := (J0z p (k + 1)).1;have en := J6m S a1 (o := 0) (by omega);refine ⟨by omega, by omega, (J5b S hl a1 (by omega) a4 _).2 (fun _ => hs.1), (J5b S hl a1 (by omega) a4 _).2 (fun _ => hs.2), fun j hj w => ⟨?_, ?_⟩, ⟨_, 0, u, hn, zu, rfl, e, fun w => by cases w⟩, ⟨k + 1, 0, v, hk1, zv, by rw [en]; rfl, f, fun w => by cases w⟩⟩
    · exact J84 S hl (o' := 0) a1 (by omega) a4 hn zu e (fun h8 q => (hu j h8).2 (by rw [yes_s]; exact q)) w
    · rw [en]
      exact J84 S hl (o' := 0) a1 (by omega) a4 hk1 zv f (fun h8 q => (hv j h8).2 (by rw [no_s]; exact q)) w

theorem J46 (S : Hdn p h st X) {q : Nat} {r : Nat -> Int} (hI : ShI p st X l q r) : ∃ k o s, k < p.cl /\ o < sizeK p k /\ q = st k + o /\ l k = some s /\
    ((((p.ins k).op = 3 \/ (p.ins k).op = 4) /\ ((o = 0 /\ h.ins q = ⟨10, X, (p.ins k).b, 0, (p.ins k).n⟩) \/ (o = 1 /\ h.ins q = ⟨11, X, 0, 0, J0c (p.log (p.ins k).c.toNat)⟩) \/ (o = 2 /\ h.ins q = ⟨(p.ins k).op, (p.ins k).a, X, (p.ins k).c, 0⟩ /\ 0 <= r X.toNat /\ r X.toNat < J0c (p.log (p.ins k).c.toNat)))) \/
     (o = 0 /\ sizeK p k = 1 /\ ((p.ins k).op = 7 \/ (p.ins k).op = 8) /\ (h.ins q).op = (p.ins k).op) \/
     (o = 0 /\ sizeK p k = 1 /\ ¬ ((p.ins k).op = 3 \/ (p.ins k).op = 4) /\ ¬ ((p.ins k).op = 7 \/ (p.ins k).op = 8) /\ h.ins q = p.ins k)) := by
  obtain ⟨k, o, s, a1, a2, rfl, a4, a5⟩ := hI;refine ⟨k, o, s, a1, a2, rfl, a4, ?_⟩;by_cases m : (p.ins k).op = 3 \/ (p.ins k).op = 4
  · obtain ⟨m0, m1, m2⟩ := S.mem k a1 m
    rw [J2b m] at a2;have ho : o = 0 \/ o = 1 \/ o = 2 := by omega
    rcases ho with rfl | rfl | rfl
    · exact .inl ⟨m, .inl ⟨rfl, m0⟩⟩
    · exact .inl ⟨m, .inr (.inl ⟨rfl, m1⟩)⟩
    · exact .inl ⟨m, .inr (.inr ⟨rfl, m2, a5 rfl⟩)⟩
  · have z := J2t m
    rw [z] at a2;obtain rfl : o = 0 := by omega
    by_cases w : (p.ins k).op = 7 \/ (p.ins k).op = 8
    · exact .inr (.inl ⟨rfl, z, w, by rw [Nat.add_zero, S.go k a1 w]⟩)
    · exact .inr (.inr ⟨rfl, z, m, w, S.copy k a1 m w⟩)

theorem hd_on {k : Nat} {u : KS} (hk : k < p.cl) (e : l k = some u) (r : Nat -> Int) : ShI p st X l (st k) r := ⟨k, 0, u, hk, (J0z p k).1, rfl, e, fun w => by cases w⟩

theorem Jkg (S : Hdn p h st X) (ok : p.Ok 200 8) (hk : Known p l) (hc : (J09 p l).1 = 0) (hl : ∀ q j, lab q j = true ↔ ShSec p st l q j) (q : Nat) (h9 : (h.ins q).op = 9) (r : Nat -> Int) (hI : ShI p st X l q r) :
    (h.ins q).a.toNat < 10 /\ lab q (h.ins q).a.toNat = false := by
  obtain ⟨k, o, s, a1, a2, rfl, a4, ⟨m, ⟨_, e⟩ | ⟨_, e⟩ | ⟨_, e, _⟩⟩ | ⟨rfl, _, m, e⟩ | ⟨rfl, z, m, w, e⟩⟩ := J46 S hI
  · rw [e] at h9; dsimp only at h9; omega
  · rw [e] at h9; dsimp only at h9; omega
  · rw [e] at h9; dsimp only at h9; omega
  · omega
  · rw [e] at h9
    have H := J1o ok hk hc a1 a4;have hs := H.secret;unfold J0g at hs;simp [h9] at hs;have ha := (J0s H.ins).1 (by omega);rw [e];exact ⟨by omega, (J5b S hl a1 (by omega) a4 _).2 (fun _ => hs)⟩

theorem Jhc (S : Hdn p h st X) (ok : p.Ok 200 8) (hk : Known p l) (hc : (J09 p l).1 = 0) (hl : ∀ q j, lab q j = true ↔ ShSec p st l q j) (q : Nat) (h12 : (h.ins q).op = 12) (r : Nat -> Int) (hI : ShI p st X l q r) :
    (∀ j, j < 10 -> lab q j = true -> lab (q + 1) j = true) /\ ShI p st X l (q + 1) r := by
  obtain ⟨k, o, s, a1, a2, rfl, a4, ⟨m, ⟨_, e⟩ | ⟨_, e⟩ | ⟨_, e, _⟩⟩ | ⟨rfl, _, m, e⟩ | ⟨rfl, z, m, w, e⟩⟩ := J46 S hI
  · rw [e] at h12; dsimp only at h12; omega
  · rw [e] at h12; dsimp only at h12; omega
  · rw [e] at h12; dsimp only at h12; omega
  · omega
  · rw [e] at h12
    have H := J1o ok hk hc a1 a4;obtain ⟨u, eu, hu⟩ := H.plain (by omega) (by omega) (by omega);have hk1 := H.next (by omega) (by omega);have en : st k + 0 + 1 = st (k + 1) := J6m S a1 (o := 0) (by omega);have e3 : nextK p (p.ins k) s = s := by unfold nextK; simp [h12]
    rw [e3] at hu;rw [en];exact ⟨fun j hj => J84 S hl (o' := 0) a1 a2 a4 hk1 (J0z p _).1 eu (fun h8 q => (hu j h8).2 q), hd_on hk1 eu r⟩

theorem idx_x (r : Nat -> Int) {o a x c : Int} (ho : o = 3 \/ o = 4) (h0 : 0 <= r x.toNat) (h1 : r x.toNat < 65) : idxI r ⟨o, a, x, c, 0⟩ = r x.toNat := by
  unfold idxI;dsimp only;rw [if_neg (by omega)];unfold wrap64;omega
theorem Jfg {i : Ins} (hi : InsOk p.rl p.log p.cl 8 i) (m : ¬ (i.op = 3 \/ i.op = 4)) (hp : 0 <= putI i) : i.op = 5 \/ i.op = 6 := by
  unfold putI at hp;by_cases q : i.op = 5 \/ i.op = 6
  · exact q
  · rw [if_neg (by omega), if_neg (by omega)] at hp; omega

theorem Jkj (S : Hdn p h st X) (ok : p.Ok 200 8) (hk : Known p l) (hc : (J09 p l).1 = 0) (hl : ∀ q j, lab q j = true ↔ ShSec p st l q j) (q : Nat) (hp : 0 <= putI (h.ins q)) (r : Nat -> Int) (hI : ShI p st X l q r) :
    (h.ins q).c.toNat < h.rl /\ (h.ins q).a.toNat < 10 /\ (0 <= idxI r (h.ins q) /\ idxI r (h.ins q) < J0c (h.log (h.ins q).c.toNat)) /\ (∀ t, (∀ j, j < 10 -> lab q j = false -> r j = t j) -> idxI r (h.ins q) = idxI t (h.ins q)) := by
  obtain ⟨k, o, s, a1, a2, rfl, a4, ⟨m, ⟨_, e⟩ | ⟨_, e⟩ | ⟨rfl, e, x1, x2⟩⟩ | ⟨rfl, _, m, e⟩ | ⟨rfl, z, m, w, e⟩⟩ := J46 S hI
  · rw [e] at hp; exact absurd hp (by unfold putI; simp)
  · rw [e] at hp; exact absurd hp (by unfold putI; simp)
  · have H := J1o ok hk hc a1 a4
    have hi := H.ins;have ha := (J0s hi).1 (by omega);have hr : Rgn p.rl (p.ins k).c := by unfold InsOk at hi; rcases m with m | m <;> simp [m] at hi <;> exact hi.2.2
    unfold Rgn at hr;have hcr : (p.ins k).c.toNat < p.rl := by omega
    have hw := ok.1.2 _ hcr;have h64 := J2h (k := (p.log (p.ins k).c.toNat).toNat) (by omega);have x3 : r X.toNat < 65 := by unfold J0c at x2; omega
    rw [e];dsimp only;rw [idx_x r m x1 x3, <- (S.reg _ hcr).1, <- S.rl];refine ⟨hcr, by omega, ⟨x1, x2⟩, fun t ht => ?_⟩;have := (J5z S hl a1 a2 a4 ht).2 X.toNat S.xn.1 S.xn.2;rw [idx_x t m (by omega) (by omega), this]
  · exact absurd hp (by unfold putI; rw [if_neg (by omega), if_neg (by omega)]; omega)
  · rw [e] at hp
    have H := J1o ok hk hc a1 a4;have hi := H.ins;have op := Jfg hi m hp;have ha := (J0s hi).1 (by omega);have hr : Rgn p.rl (p.ins k).c /\ Wrd p.log (p.ins k).c (p.ins k).n := by unfold InsOk at hi; rcases op with m | m <;> simp [m] at hi <;> exact hi.2.2
    have h1 := hr.1;have h2 := hr.2;unfold Rgn at h1;unfold Wrd at h2;have hcr : (p.ins k).c.toNat < p.rl := by omega
    have ei : ∀ t, idxI t (p.ins k) = (p.ins k).n := fun t => by unfold idxI; rw [if_pos op]
    rw [e, ei, <- (S.reg _ hcr).1, <- S.rl];exact ⟨hcr, by omega, h2, fun t _ => (ei t).symm⟩

theorem Jax (S : Hdn p h st X) (ok : p.Ok 200 8) (hk : Known p l) (hc : (J09 p l).1 = 0) (hl : ∀ q j, lab q j = true ↔ ShSec p st l q j) (q : Nat) (hp : putI (h.ins q) = 0) (r : Nat -> Int) (hI : ShI p st X l q r) :
    (∀ j, j < 10 -> j ≠ (h.ins q).a.toNat -> lab q j = true -> lab (q + 1) j = true) /\ (h.sec (h.ins q).c.toNat = true -> lab (q + 1) (h.ins q).a.toNat = true) /\ ∀ v, ShI p st X l (q + 1) (setR r (h.ins q).a v) := by
  have key : ∀ k o s, k < p.cl -> o < sizeK p k -> o + 1 = sizeK p k -> l k = some s -> (p.ins k).op = 3 \/ (p.ins k).op = 5 ->
      (∀ j, j < 10 -> j ≠ (p.ins k).a.toNat -> lab (st k + o) j = true -> lab (st k + o + 1) j = true) /\ (h.sec (p.ins k).c.toNat = true -> lab (st k + o + 1) (p.ins k).a.toNat = true) /\ ∀ v, ShI p st X l (st k + o + 1) (setR r (p.ins k).a v) := fun k o s a1 a2 a3 a4 op => by
    have H := J1o ok hk hc a1 a4;obtain ⟨u, eu, hu⟩ := H.plain (by omega) (by omega) (by omega);have hk1 := H.next (by omega) (by omega);have en := J6m S a1 a3;have hi := H.ins;have hr : Rgn p.rl (p.ins k).c := by unfold InsOk at hi; rcases op with m | m <;> simp [m] at hi <;> simp [hi]
    unfold Rgn at hr;have hcr : (p.ins k).c.toNat < p.rl := by omega
    have ha := (J0s hi).1 (by omega);have e3 : nextK p (p.ins k) s = setK s (p.ins k).a ⟨17, p.sec (p.ins k).c.toNat⟩ := by unfold nextK; rw [if_neg (by omega), if_neg (by omega), if_neg (by omega), if_pos op]
    rw [e3] at hu;rw [en];refine ⟨fun j hj ne => J84 S hl (o' := 0) a1 a2 a4 hk1 (J0z p _).1 eu (fun h8 q => (hu j h8).2 (by unfold setK; rw [if_neg ne]; exact q)), fun hs => ?_, fun v => hd_on hk1 eu _⟩;refine (J9o S hl (o := 0) hk1 (J0z p _).1 eu _).2 ⟨ha, (hu _ ha).2 ?_⟩;unfold setK;rw [if_pos rfl, (S.reg _ hcr).2];exact hs
  obtain ⟨k, o, s, a1, a2, rfl, a4, ⟨m, ⟨_, e⟩ | ⟨_, e⟩ | ⟨rfl, e, x1, x2⟩⟩ | ⟨rfl, _, m, e⟩ | ⟨rfl, z, m, w, e⟩⟩ := J46 S hI
  · rw [e] at hp; exact absurd hp (by unfold putI; simp)
  · rw [e] at hp; exact absurd hp (by unfold putI; simp)
  · rw [e] at hp |-
    dsimp only;refine key k 2 s a1 a2 (by rw [J2b m]) a4 ?_;unfold putI at hp;dsimp only at hp;rcases m with m | m
    · exact .inl m
    · rw [if_neg (by omega), if_pos (by omega)] at hp; omega
  · exact absurd hp (by unfold putI; rw [if_neg (by omega), if_neg (by omega)]; omega)
  · rw [e] at hp |-
    refine key k 0 s a1 a2 (by omega) a4 ?_;unfold putI at hp;by_cases c : (p.ins k).op = 3 \/ (p.ins k).op = 5
    · exact c
    · rw [if_neg c] at hp; split at hp <;> omega

theorem Jm8 (S : Hdn p h st X) (ok : p.Ok 200 8) (hk : Known p l) (hc : (J09 p l).1 = 0) (hl : ∀ q j, lab q j = true ↔ ShSec p st l q j) (q : Nat) (hp : putI (h.ins q) = 1) (r : Nat -> Int) (hI : ShI p st X l q r) :
    (∀ j, j < 10 -> lab q j = true -> lab (q + 1) j = true) /\ (lab q (h.ins q).a.toNat = true -> h.sec (h.ins q).c.toNat = true) /\ ShI p st X l (q + 1) r := by
  have key : ∀ k o s, k < p.cl -> o < sizeK p k -> o + 1 = sizeK p k -> l k = some s -> (p.ins k).op = 4 \/ (p.ins k).op = 6 ->
      (∀ j, j < 10 -> lab (st k + o) j = true -> lab (st k + o + 1) j = true) /\ (lab (st k + o) (p.ins k).a.toNat = true -> h.sec (p.ins k).c.toNat = true) /\ ShI p st X l (st k + o + 1) r := fun k o s a1 a2 a3 a4 op => by
    have H := J1o ok hk hc a1 a4;obtain ⟨u, eu, hu⟩ := H.plain (by omega) (by omega) (by omega);have hk1 := H.next (by omega) (by omega);have en := J6m S a1 a3;have hi := H.ins;have hr : Rgn p.rl (p.ins k).c := by unfold InsOk at hi; rcases op with m | m <;> simp [m] at hi <;> simp [hi]
    unfold Rgn at hr;have hcr : (p.ins k).c.toNat < p.rl := by omega
    have e3 : nextK p (p.ins k) s = s := by unfold nextK; rw [if_neg (by omega), if_neg (by omega), if_neg (by omega), if_neg (by omega), if_neg (by omega), if_pos (by omega)]
    rw [e3] at hu;rw [en];refine ⟨fun j hj => J84 S hl (o' := 0) a1 a2 a4 hk1 (J0z p _).1 eu (fun h8 q => (hu j h8).2 q), fun hs => ?_, hd_on hk1 eu _⟩;have hs2 := ((J9o S hl a1 a2 a4 _).1 hs).2;have hsec := H.secret;unfold J0g at hsec;rw [<- (S.reg _ hcr).2];rcases op with m | m <;> simp [m, hs2] at hsec
    · exact hsec.2
    · exact hsec
  obtain ⟨k, o, s, a1, a2, rfl, a4, ⟨m, ⟨_, e⟩ | ⟨_, e⟩ | ⟨rfl, e, x1, x2⟩⟩ | ⟨rfl, _, m, e⟩ | ⟨rfl, z, m, w, e⟩⟩ := J46 S hI
  · rw [e] at hp; exact absurd hp (by unfold putI; simp)
  · rw [e] at hp; exact absurd hp (by unfold putI; simp)
  · rw [e] at hp |-
    dsimp only;refine key k 2 s a1 a2 (by rw [J2b m]) a4 ?_;unfold putI at hp;dsimp only at hp;rcases m with m | m
    · rw [if_pos (by omega)] at hp; omega
    · exact .inl m
  · exact absurd hp (by unfold putI; rw [if_neg (by omega), if_neg (by omega)]; omega)
  · rw [e] at hp |-
    refine key k 0 s a1 a2 (by omega) a4 ?_;unfold putI at hp;by_cases c : (p.ins k).op = 3 \/ (p.ins k).op = 5
    · rw [if_pos c] at hp; omega
    · rw [if_neg c] at hp; split at hp <;> omega

theorem hd_op (S : Hdn p h st X) (ok : p.Ok 200 8) (hk : Known p l) (hc : (J09 p l).1 = 0) (hl : ∀ q j, lab q j = true ↔ ShSec p st l q j) (q : Nat) (h7 : ¬ (h.ins q).op = 7) (h8 : ¬ (h.ins q).op = 8) (h9 : ¬ (h.ins q).op = 9) (h12 : ¬ (h.ins q).op = 12) (hp : ¬ 0 <= putI (h.ins q)) (r : Nat -> Int) (hI : ShI p st X l q r) :
    (∀ t, (∀ j, j < 10 -> lab q j = false -> r j = t j) -> (regsI r (h.ins q)).2 = (regsI t (h.ins q)).2 /\ ∀ j, j < 10 -> lab (q + 1) j = false -> (regsI r (h.ins q)).1 j = (regsI t (h.ins q)).1 j) /\ ShI p st X l (q + 1) (regsI r (h.ins q)).1 := by
  have xn := S.xn;obtain ⟨k, o, s, a1, a2, rfl, a4, ⟨m, ⟨rfl, e⟩ | ⟨rfl, e⟩ | ⟨rfl, e, x1, x2⟩⟩ | ⟨rfl, _, m, e⟩ | ⟨rfl, z, m, w, e⟩⟩ := J46 S hI
  · have H := J1o ok hk hc a1 a4
    have hb := (J0s H.ins).2.1 (by omega)
    have hs : (s (p.ins k).b.toNat).s = false := by
      have hs := H.secret;unfold J0g at hs;rcases m with m | m <;> simp [m] at hs
      · exact hs
      · exact hs.1
    have e1 : ∀ t, regsI t ⟨10, X, (p.ins k).b, 0, (p.ins k).n⟩ = (setR t X (wrap64 (t (p.ins k).b.toNat + (p.ins k).n)), []) := fun t => by unfold regsI; simp
    have z := J2b m;rw [e, e1];refine ⟨fun t ht => ?_, ⟨k, 1, s, a1, by omega, rfl, a4, fun w => by cases w⟩⟩;rw [e1];refine ⟨rfl, ?_⟩;have A := J5z S hl a1 a2 a4 ht;refine J66 (o := 1) S hl a1 (by omega) a4 (fun j hj q => ?_) (fun j j8 j10 => ?_)
    · dsimp only
      unfold setR;rw [if_neg (by omega), if_neg (by omega)];exact A.1 j hj q
    · dsimp only
      unfold setR;by_cases c : j = X.toNat
      · rw [if_pos c, if_pos c, A.1 _ hb hs]
      · rw [if_neg c, if_neg c]; exact A.2 j j8 j10
  · have e1 : ∀ t, regsI t ⟨11, X, 0, 0, J0c (p.log (p.ins k).c.toNat)⟩ = (if t X.toNat < 0 \/ J0c (p.log (p.ins k).c.toNat) <= t X.toNat then setR t X 0 else t, []) := fun t => by unfold regsI; simp
    have z := J2b m;have wp := J4e (p.log (p.ins k).c.toNat);rw [e, e1];refine ⟨fun t ht => ?_, ⟨k, 2, s, a1, by omega, rfl, a4, fun _ => ?_⟩⟩
    · rw [e1]
      refine ⟨rfl, ?_⟩;have A := J5z S hl a1 a2 a4 ht;have ex := A.2 X.toNat xn.1 xn.2;refine J66 (o := 2) S hl a1 (by omega) a4 (fun j hj q => ?_) (fun j j8 j10 => ?_)
      · dsimp only
        rw [<- ex]
        split
        · unfold setR
          rw [if_neg (by omega), if_neg (by omega)];exact A.1 j hj q
        · exact A.1 j hj q
      · dsimp only
        rw [<- ex]
        split
        · unfold setR
          by_cases c : j = X.toNat
          · rw [if_pos c, if_pos c]
          · rw [if_neg c, if_neg c]; exact A.2 j j8 j10
        · exact A.2 j j8 j10
    · dsimp only
      split
      · unfold setR; rw [if_pos rfl]; omega
      · omega
  · rw [e] at hp
    exact absurd (show 0 <= putI (⟨(p.ins k).op, (p.ins k).a, X, (p.ins k).c, 0⟩ : Ins) by unfold putI; dsimp only; rcases m with m | m <;> simp [m]) hp
  · omega
  · rw [e] at h7 h8 h9 h12 hp
    have H := J1o ok hk hc a1 a4;obtain ⟨u, eu, hu⟩ := H.plain h7 h8 h9;have hk1 := H.next h7 h9;have en : st k + 0 + 1 = st (k + 1) := J6m S a1 (o := 0) (by omega);have n5 : ¬ (p.ins k).op = 5 := fun q => hp (by unfold putI; simp [q])
    have n6 : ¬ (p.ins k).op = 6 := fun q => hp (by unfold putI; simp [q])
    have ha := (J0s H.ins).1 (by omega);rw [en, e];refine ⟨fun t ht => ?_, hd_on hk1 eu _⟩;have A := J5z S hl a1 a2 a4 ht;have R := Jec H.ins (fun c => m (.inl c)) (fun c => m (.inr c)) n5 n6 h7 h8 h9 H.secret A.1;refine ⟨R.2, J66 (o := 0) S hl hk1 (J0z p _).1 eu (R.1.mono hu) (fun j j8 j10 => ?_)⟩;rw [J50 ha r j j8, J50 ha t j j8];exact A.2 j j8 j10

theorem Jhd (S : Hdn p h st X) (ok : p.Ok 200 8) (hk : Known p l) (hc : (J09 p l).1 = 0) : Still h := by
  refine ⟨fun _ => True, fun q j => @decide (ShSec p st l q j) (Classical.propDecidable _), ShI p st X l, fun _ _ => trivial, ?_, ?_⟩
  · have hl : ∀ q j, (fun q j => @decide (ShSec p st l q j) (Classical.propDecidable _)) q j = true ↔ ShSec p st l q j := fun q j => by simp
    refine ⟨?_, trivial, fun k _ c r I => Jkh S ok hk hc hl k c r I, fun k _ c r I => ?_, fun k _ c r I => Jkg S ok hk hc hl k c r I, fun k _ c r I => Jhc S ok hk hc hl k c r I, fun k _ c r I => Jkj S ok hk hc hl k c r I, fun k _ c r I => ⟨(Jax S ok hk hc hl k c r I).1, (Jax S ok hk hc hl k c r I).2.1, fun v _ => (Jax S ok hk hc hl k c r I).2.2 v⟩, fun k _ c r I => Jm8 S ok hk hc hl k c r I, fun _ _ _ _ _ => trivial, fun k _ h7 h8 h9 h12 hp r I => hd_op S ok hk hc hl k h7 h8 h9 h12 hp r I⟩
    · exact ⟨by rw [<- S.rl]; exact ok.1.1, fun i hi => by rw [<- (S.reg i (by rw [S.rl]; exact hi)).1]; exact ok.1.2 i (by rw [S.rl]; exact hi)⟩
    · obtain ⟨b1, b2, b3, b4, b5, b6, b7⟩ := Jkf S ok hk hc hl k c r I
      refine ⟨b1, b2, b3, b4, b5, ?_, .inl ?_⟩
      · unfold J9z; split <;> assumption
      · unfold J6w; split <;> assumption
  · obtain ⟨s, e, _⟩ := hk.closed.first
    exact S.s0 ▸ hd_on ok.2.1 e _

end
end
section
open Go.RowKit
set_option linter.unusedSectionVars false
set_option linter.unusedSimpArgs false
set_option linter.unusedVariables false
def sizeF (pre post : Nat -> Bool) (k : Nat) : Nat := (pre k).toNat + 1 + (post k).toNat
def J21 : Ins := ⟨12, 0, 0, 0, 0⟩

structure Fnc (p h : Prg) (st : Nat -> Nat) (pre post : Nat -> Bool) : Prop where
 rl : p.rl = h.rl
 reg : ∀ i, i < p.rl -> p.log i = h.log i /\ p.sec i = h.sec i
 s0 : st 0 = 0
 next : ∀ k, k < p.cl -> st (k + 1) = st k + sizeF pre post k
 cl : h.cl = st p.cl
 ahead : ∀ k, k < p.cl -> pre k = true -> h.ins (st k) = J21
 behind : ∀ k, k < p.cl -> post k = true -> h.ins (st k + (pre k).toNat + 1) = J21
 go : ∀ k, k < p.cl -> (p.ins k).op = 7 \/ (p.ins k).op = 8 -> h.ins (st k + (pre k).toNat) = ⟨(p.ins k).op, (p.ins k).a, (p.ins k).b, (p.ins k).c, (st (p.ins k).n.toNat : Int)⟩
 copy : ∀ k, k < p.cl -> ¬ ((p.ins k).op = 7 \/ (p.ins k).op = 8) -> h.ins (st k + (pre k).toNat) = p.ins k
 both : ∀ k, k < p.cl -> (p.ins k).op = 8 -> (pre (p.ins k).n.toNat = true \/ (p.ins (p.ins k).n.toNat).op = 12) /\ (post k = true \/ pre (k + 1) = true \/ (p.ins (k + 1)).op = 12)

theorem J2j (b : Bool) : (b = true /\ b.toNat = 1) \/ (b = false /\ b.toNat = 0) := by cases b <;> simp
theorem J3a (pre post : Nat -> Bool) (k : Nat) : 1 <= sizeF pre post k /\ sizeF pre post k <= 3 := by
 unfold sizeF;rcases J2j (pre k) with ⟨_, a⟩ | ⟨_, a⟩ <;> rcases J2j (post k) with ⟨_, b⟩ | ⟨_, b⟩ <;> omega

section
variable {p h : Prg} {st : Nat -> Nat} {pre post : Nat -> Bool} {l : KV}

theorem Fnc.mono (S : Fnc p h st pre post) : ∀ (b a : Nat), a < b -> b <= p.cl -> st a + sizeF pre post a <= st b
 | 0, a, h1, _ => absurd h1 (Nat.not_lt_zero _)
 | b + 1, a, h1, h2 => by
  have e := S.next b (by omega);have := (J3a pre post b).1;by_cases q : a = b
  ·subst q; omega
  ·have := S.mono b a (by omega) (by omega); omega
theorem Fnc.uniq (S : Fnc p h st pre post) {k k' o o' : Nat} (hk : k < p.cl) (hk' : k' < p.cl) (ho : o < sizeF pre post k) (ho' : o' < sizeF pre post k') (e : st k + o = st k' + o') : k = k' /\ o = o' := by
 rcases Nat.lt_trichotomy k k' with q | q | q
 ·have := S.mono k' k q (by omega); omega
 ·subst q; exact ⟨rfl, by omega⟩
 ·have := S.mono k k' q (by omega); omega

def nxF (pre : Nat -> Bool) (k o : Nat) : Nat := if o <= (pre k).toNat then k else k + 1
def PosF (p : Prg) (st : Nat -> Nat) (pre post : Nat -> Bool) (q n : Nat) : Prop := n < p.cl /\ ∃ k o, k < p.cl /\ o < sizeF pre post k /\ q = st k + o /\ n = nxF pre k o
theorem Jld (S : Fnc p h st pre post) {q n n' : Nat} (a : PosF p st pre post q n) (b : PosF p st pre post q n') : n = n' := by
 obtain ⟨_, k, o, a1, a2, a3, a4⟩ := a;obtain ⟨_, k', o', b1, b2, b3, b4⟩ := b;obtain ⟨rfl, rfl⟩ := S.uniq a1 b1 a2 b2 (a3.symm.trans b3);rw [a4, b4]
theorem J6y {n : Nat} (hn : n < p.cl) : PosF p st pre post (st n) n := ⟨hn, n, 0, hn, (J3a pre post n).1, rfl, by unfold nxF; rw [if_pos (Nat.zero_le _)]⟩

theorem Fnc.stop (S : Fnc p h st pre post) {k : Nat} (hk : k < p.cl) (f : pre k = true \/ (p.ins k).op = 12) : Stop h (st k) := by
 cases c : pre k with
 | true => exact .inr (.inr (by rw [S.ahead k hk c]; rfl))
 | false =>
  rw [c] at f;have f12 : (p.ins k).op = 12 := by simpa using f
  have e := S.copy k hk (by omega);rw [c] at e;exact .inr (.inr (by rw [show st k = st k + false.toNat from rfl, e]; exact f12))

theorem J37 (S : Fnc p h st pre post) {q n : Nat} (a : PosF p st pre post q n) :
  (h.ins q = J21 /\ PosF p st pre post (q + 1) n) \/
  (((((p.ins n).op = 7 \/ (p.ins n).op = 8) /\ h.ins q = ⟨(p.ins n).op, (p.ins n).a, (p.ins n).b, (p.ins n).c, (st (p.ins n).n.toNat : Int)⟩) \/ (¬ ((p.ins n).op = 7 \/ (p.ins n).op = 8) /\ h.ins q = p.ins n)) /\
   (n + 1 < p.cl -> PosF p st pre post (q + 1) (n + 1) /\ ((p.ins n).op = 8 -> Stop h (q + 1)))) := by
 obtain ⟨hn, k, o, a1, a2, rfl, a4⟩ := a;have e := S.next k a1;have bp := J2j (pre k);have bq := J2j (post k);have sz : sizeF pre post k = (pre k).toNat + 1 + (post k).toNat := rfl;unfold nxF at a4;by_cases c : o <= (pre k).toNat
 ·rw [if_pos c] at a4
  subst a4;by_cases d : o = (pre n).toNat
  ·right
   subst d;refine ⟨?_, fun hn1 => ?_⟩
   ·by_cases w : (p.ins n).op = 7 \/ (p.ins n).op = 8
    ·exact .inl ⟨w, S.go n a1 w⟩
    ·exact .inr ⟨w, S.copy n a1 w⟩
   ·rcases bq with ⟨t, u⟩ | ⟨t, u⟩
    ·refine ⟨⟨hn1, n, (pre n).toNat + 1, a1, by omega, rfl, by unfold nxF; rw [if_neg (by omega)]⟩, fun _ => .inr (.inr ?_)⟩
     rw [S.behind n a1 t]; rfl
    ·have e2 : st n + (pre n).toNat + 1 = st (n + 1) := by omega
     rw [e2];refine ⟨J6y hn1, fun h8 => S.stop hn1 ?_⟩;have := (S.both n a1 h8).2;rw [t] at this;simpa using this
  ·left
   rcases bp with ⟨t, u⟩ | ⟨t, u⟩
   ·obtain rfl : o = 0 := by omega
    exact ⟨S.ahead n a1 t, hn, n, 1, a1, by omega, rfl, by unfold nxF; rw [if_pos (by omega)]⟩
   ·omega
 ·rw [if_neg c] at a4
  subst a4;left
  have u : post k = true /\ o = (pre k).toNat + 1 := by
   rcases bq with ⟨t, u⟩ | ⟨t, u⟩
   ·exact ⟨t, by omega⟩
   ·omega
  obtain ⟨u, rfl⟩ := u;rw [<- Nat.add_assoc];refine ⟨S.behind k a1 u, ?_⟩;have e2 : st k + (pre k).toNat + 1 + 1 = st (k + 1) := by rw [u] at sz; simp at sz; omega
  rw [e2];exact J6y hn

def FnI (p : Prg) (st : Nat -> Nat) (pre post : Nat -> Bool) (l : KV) (q : Nat) (r : Nat -> Int) : Prop := ∃ n s, PosF p st pre post q n /\ l n = some s /\ HasS s r /\ ∀ j, j < 10 -> B64 (r j)
def FnSec (p : Prg) (st : Nat -> Nat) (pre post : Nat -> Bool) (l : KV) (q j : Nat) : Prop := ∃ n s, PosF p st pre post q n /\ l n = some s /\ j < 8 /\ (s j).s = true

variable {lab : Nat -> Nat -> Bool}
theorem J9d (S : Fnc p h st pre post) (hl : ∀ q j, lab q j = true ↔ FnSec p st pre post l q j) {q n : Nat} {s : KS} (hq : PosF p st pre post q n) (e : l n = some s) (j : Nat) : lab q j = true ↔ j < 8 /\ (s j).s = true := by
 rw [hl];constructor
 ·rintro ⟨n', s', h1, h4, h5, h6⟩
  obtain rfl := Jld S hq h1;rw [e] at h4; cases h4;exact ⟨h5, h6⟩
 ·rintro ⟨h5, h6⟩
  exact ⟨n, s, hq, e, h5, h6⟩
theorem J58 (S : Fnc p h st pre post) (hl : ∀ q j, lab q j = true ↔ FnSec p st pre post l q j) {q n : Nat} {s : KS} (hq : PosF p st pre post q n) (e : l n = some s) (j : Nat) : lab q j = false ↔ (j < 8 -> (s j).s = false) := by
 have := J9d S hl hq e j;cases c : lab q j with
 | true =>
  rw [c] at this;have t := this.1 rfl;exact ⟨fun w => (by cases w), fun w => absurd t.2 (by rw [w t.1]; simp)⟩
 | false =>
  rw [c] at this;refine ⟨fun _ hj => ?_, fun _ => rfl⟩;cases q2 : (s j).s with
  | false => rfl
  | true => exact absurd (this.2 ⟨hj, q2⟩) (by simp)
theorem J9e (S : Fnc p h st pre post) (hl : ∀ q j, lab q j = true ↔ FnSec p st pre post l q j) {q n : Nat} {s : KS} (hq : PosF p st pre post q n) (e : l n = some s) {r t : Nat -> Int} (hr : ∀ j, j < 10 -> lab q j = false -> r j = t j) : EqS s r t /\ ∀ j, 8 <= j -> j < 10 -> r j = t j :=
 ⟨fun j hj c => hr j (by omega) ((J58 S hl hq e j).2 (fun _ => c)), fun j h8 h10 => hr j h10 ((J58 S hl hq e j).2 (fun c => by omega))⟩
theorem Jd6 (S : Fnc p h st pre post) (hl : ∀ q j, lab q j = true ↔ FnSec p st pre post l q j) {q n : Nat} {s : KS} (hq : PosF p st pre post q n) (e : l n = some s) {r t : Nat -> Int} (h1 : EqS s r t) (h2 : ∀ j, 8 <= j -> j < 10 -> r j = t j) : ∀ j, j < 10 -> lab q j = false -> r j = t j := fun j hj c => by
 by_cases h8 : j < 8
 ·exact h1 j h8 ((J58 S hl hq e j).1 c h8)
 ·exact h2 j (by omega) hj
theorem J6g (S : Fnc p h st pre post) (hl : ∀ q j, lab q j = true ↔ FnSec p st pre post l q j) {q n q' n' : Nat} {s u : KS} (hq : PosF p st pre post q n) (e : l n = some s) (hq' : PosF p st pre post q' n') (e' : l n' = some u) {j : Nat} (hu : j < 8 -> (s j).s = true -> (u j).s = true) : lab q j = true -> lab q' j = true := fun c => by
 have := (J9d S hl hq e j).1 c;exact (J9d S hl hq' e' j).2 ⟨this.1, hu this.1 this.2⟩

def memC (p : Prg) (v : Int) : Mem := ⟨p.rl, fun i => (J0c (p.log i)).toNat, fun _ _ => v⟩
theorem J9t (ok : p.Ok 200 8) (hn : ∀ i, i < p.cl -> B64 (p.ins i).n) (hk : Known p l) (hc : (J09 p l).1 = 0) (v : Int) : Good p (memC p v) l :=
 ⟨ok, hn, ⟨ok.1, rfl, fun i _ => by have := J4e (p.log i); show ((J0c (p.log i)).toNat : Int) = _; omega⟩, hk, hc⟩
theorem J86 {n : Nat} {s : KS} {r : Nat -> Int} (hn : n < p.cl) (e : l n = some s) (hs : HasS s r) (hr : ∀ j, j < 10 -> B64 (r j)) {v : Int} (hv : B64 v) : Sound p (memC p v) l ⟨n, r, memC p v, []⟩ :=
 ⟨hn, ⟨s, e, hs⟩, hr, rfl, fun _ => rfl, fun _ _ _ _ => hv⟩

theorem Jek (ok : p.Ok 200 8) (hn : ∀ i, i < p.cl -> B64 (p.ins i).n) (hk : Known p l) (hc : (J09 p l).1 = 0) {n : Nat} {s : KS} {r : Nat -> Int} (h1 : n < p.cl) (e : l n = some s) (hs : HasS s r) (hr : ∀ j, j < 10 -> B64 (r j)) {v : Int} (hv : B64 v) {s' : St} (es : stepI p ⟨n, r, memC p v, []⟩ = (s', none)) :
  s'.at_ < p.cl /\ ∃ u, l s'.at_ = some u /\ HasS u s'.r /\ ∀ j, j < 10 -> B64 (s'.r j) := by
 rcases (J9t ok hn hk hc v).step (J86 h1 e hs hr hv) with ⟨_, _, es', _⟩ | ⟨s1, es1, S1⟩
 ·rw [es] at es'; simp at es'
 ·rw [es] at es1
  obtain ⟨rfl, _⟩ := Prod.mk.inj es1;obtain ⟨u, eu, hu⟩ := S1.kn;exact ⟨S1.at_, u, eu, hu, S1.r⟩
theorem J8h (ok : p.Ok 200 8) (hn : ∀ i, i < p.cl -> B64 (p.ins i).n) (hk : Known p l) (hc : (J09 p l).1 = 0) {n : Nat} {s : KS} {r : Nat -> Int} (h1 : n < p.cl) (e : l n = some s) (hs : HasS s r) (hr : ∀ j, j < 10 -> B64 (r j)) (hop : (p.ins n).op = 3 \/ (p.ins n).op = 4 \/ (p.ins n).op = 5 \/ (p.ins n).op = 6) (v : Int) (hv : B64 v) :
  ¬ (idxI r (p.ins n) < 0 \/ ((memC p v).len (p.ins n).c.toNat : Int) <= idxI r (p.ins n)) /\ (p.ins n).c.toNat < p.rl /\ 0 <= idxI r (p.ins n) /\ idxI r (p.ins n) < J0c (p.log (p.ins n).c.toNat) := by
 obtain ⟨w1, w2, w3⟩ := (J9t ok hn hk hc v).word (J86 h1 e hs hr hv) e hs hop;refine ⟨w1, w2, ?_⟩;have := J4e (p.log (p.ins n).c.toNat);have e2 : (((memC p v).len (p.ins n).c.toNat : Nat) : Int) = J0c (p.log (p.ins n).c.toNat) := by show ((J0c (p.log (p.ins n).c.toNat)).toNat : Int) = _; omega
 dsimp only at w1;rw [e2] at w1;omega

theorem Jkb (ok : p.Ok 200 8) (hn : ∀ i, i < p.cl -> B64 (p.ins i).n) (hk : Known p l) (hc : (J09 p l).1 = 0) (S : Fnc p h st pre post) (hl : ∀ q j, lab q j = true ↔ FnSec p st pre post l q j) (q : Nat) (h7 : (h.ins q).op = 7) (r : Nat -> Int) (hI : FnI p st pre post l q r) :
  (∀ j, j < 10 -> lab q j = true -> lab (h.ins q).n.toNat j = true) /\ FnI p st pre post l (h.ins q).n.toNat r := by
 obtain ⟨n, s, P, e, hs, hr⟩ := hI;rcases J37 S P with ⟨c, _⟩ | ⟨⟨w, c⟩ | ⟨w, c⟩, P1⟩
 ·rw [c] at h7; exact absurd h7 (by decide)
 ·rw [c] at h7 |-
  dsimp only at h7 |-;rw [Int.toNat_natCast];have H := J1o ok hk hc P.1 e;have hin := H.ins;unfold InsOk Plc at hin;simp [h7] at hin;have hn1 : (p.ins n).n.toNat < p.cl := by omega
  obtain ⟨u, eu, hu⟩ := H.leads ((p.ins n).n.toNat, s) (by unfold J0f; rw [if_pos h7]; simp) hn1;dsimp only at eu hu;exact ⟨fun j hj => J6g S hl P e (J6y hn1) eu (fun h8 w => (hu j h8).2 w), ⟨_, u, J6y hn1, eu, hs.mono hu (fun j hj => hr j (by omega)), hr⟩⟩
 ·rw [c] at h7; omega

theorem Jk8 (ok : p.Ok 200 8) (hn : ∀ i, i < p.cl -> B64 (p.ins i).n) (hk : Known p l) (hc : (J09 p l).1 = 0) (S : Fnc p h st pre post) (hl : ∀ q j, lab q j = true ↔ FnSec p st pre post l q j) (q : Nat) (h8 : (h.ins q).op = 8) (r : Nat -> Int) (hI : FnI p st pre post l q r) :
  (h.ins q).a.toNat < 10 /\ (h.ins q).b.toNat < 10 /\ lab q (h.ins q).a.toNat = false /\ lab q (h.ins q).b.toNat = false /\ (∀ j, j < 10 -> lab q j = true -> lab (h.ins q).n.toNat j = true /\ lab (q + 1) j = true) /\ FnI p st pre post l (J9z h q r) r /\ (FnI p st pre post l (J6w h q r) r \/ Stop h (J6w h q r)) := by
 obtain ⟨n, s, P, e, hs, hr⟩ := hI;rcases J37 S P with ⟨c, _⟩ | ⟨⟨w, c⟩ | ⟨w, c⟩, P1⟩
 ·rw [c] at h8; exact absurd h8 (by decide)
 ·unfold J9z J6w
  rw [c] at h8 |-;dsimp only at h8 |-;rw [Int.toNat_natCast];have H := J1o ok hk hc P.1 e;have hin := H.ins;have hg := J0s hin;have ha := hg.1 (by omega);have hb := hg.2.1 (by omega);unfold InsOk Plc at hin;simp [h8] at hin;have hn1 : (p.ins n).n.toNat < p.cl := by omega
  have hk1 := H.next (by omega) (by omega);have hsec := H.secret;unfold J0g at hsec;simp [h8] at hsec;obtain ⟨u, eu, hu⟩ := H.leads ((p.ins n).n.toNat, yesK (p.ins n) s) (by unfold J0f; simp [h8]) hn1;obtain ⟨v, ev, hv⟩ := H.leads (n + 1, noK (p.ins n) s) (by unfold J0f; simp [h8]) hk1;dsimp only at eu hu ev hv;have hr8 : ∀ j, j < 8 -> B64 (r j) := fun j hj => hr j (by omega)
  obtain ⟨P2, st2⟩ := P1 hk1;have stop1 : Stop h (st (p.ins n).n.toNat) := S.stop hn1 (S.both n P.1 h8).1;refine ⟨by omega, by omega, (J58 S hl P e _).2 (fun _ => hsec.1), (J58 S hl P e _).2 (fun _ => hsec.2), fun j hj w => ⟨?_, ?_⟩, ?_, .inr ?_⟩
  ·exact J6g S hl P e (J6y hn1) eu (fun h8 q => (hu j h8).2 (by rw [yes_s]; exact q)) w
  ·exact J6g S hl P e P2 ev (fun h8 q => (hv j h8).2 (by rw [no_s]; exact q)) w
  ·by_cases qh : J0u (p.ins n).c (r (p.ins n).a.toNat) (r (p.ins n).b.toNat) = true
   ·rw [if_pos qh]; exact ⟨_, u, J6y hn1, eu, (Jep H.ins h8 hr8 hs qh).mono hu hr8, hr⟩
   ·rw [if_neg qh]; exact ⟨_, v, P2, ev, (Jji H.ins h8 hr8 hs qh).mono hv hr8, hr⟩
  ·by_cases qh : J0u (p.ins n).c (r (p.ins n).a.toNat) (r (p.ins n).b.toNat) = true
   ·rw [if_pos qh]; exact st2 h8
   ·rw [if_neg qh]; exact stop1
 ·rw [c] at h8; omega

theorem Jka (ok : p.Ok 200 8) (hn : ∀ i, i < p.cl -> B64 (p.ins i).n) (hk : Known p l) (hc : (J09 p l).1 = 0) (S : Fnc p h st pre post) (hl : ∀ q j, lab q j = true ↔ FnSec p st pre post l q j) (q : Nat) (h9 : (h.ins q).op = 9) (r : Nat -> Int) (hI : FnI p st pre post l q r) : (h.ins q).a.toNat < 10 /\ lab q (h.ins q).a.toNat = false := by
 obtain ⟨n, s, P, e, hs, hr⟩ := hI;rcases J37 S P with ⟨c, _⟩ | ⟨⟨w, c⟩ | ⟨w, c⟩, P1⟩
 ·rw [c] at h9; exact absurd h9 (by decide)
 ·rw [c] at h9; dsimp only at h9; omega
 ·rw [c] at h9 |-
  have H := J1o ok hk hc P.1 e;have hsec := H.secret;unfold J0g at hsec;simp [h9] at hsec;have ha := (J0s H.ins).1 (by omega);exact ⟨by omega, (J58 S hl P e _).2 (fun _ => hsec)⟩

theorem Jh7 (ok : p.Ok 200 8) (hn : ∀ i, i < p.cl -> B64 (p.ins i).n) (hk : Known p l) (hc : (J09 p l).1 = 0) (S : Fnc p h st pre post) (hl : ∀ q j, lab q j = true ↔ FnSec p st pre post l q j) (q : Nat) (h12 : (h.ins q).op = 12) (r : Nat -> Int) (hI : FnI p st pre post l q r) : (∀ j, j < 10 -> lab q j = true -> lab (q + 1) j = true) /\ FnI p st pre post l (q + 1) r := by
 obtain ⟨n, s, P, e, hs, hr⟩ := hI;rcases J37 S P with ⟨c, P2⟩ | ⟨⟨w, c⟩ | ⟨w, c⟩, P1⟩
 ·exact ⟨fun j hj => J6g S hl P e P2 e (fun _ q => q), ⟨n, s, P2, e, hs, hr⟩⟩
 ·rw [c] at h12; dsimp only at h12; omega
 ·rw [c] at h12
  have H := J1o ok hk hc P.1 e;obtain ⟨u, eu, hu⟩ := H.plain (by omega) (by omega) (by omega);have hk1 := H.next (by omega) (by omega);have e3 : nextK p (p.ins n) s = s := by unfold nextK; simp [h12]
  rw [e3] at hu;have P2 := (P1 hk1).1;exact ⟨fun j hj => J6g S hl P e P2 eu (fun h8 q => (hu j h8).2 q), ⟨n + 1, u, P2, eu, hs.mono hu (fun j hj => hr j (by omega)), hr⟩⟩

theorem Jej (S : Fnc p h st pre post) {q n : Nat} (P : PosF p st pre post q n) (hp : 0 <= putI (h.ins q)) : h.ins q = p.ins n /\ ((p.ins n).op = 3 \/ (p.ins n).op = 4 \/ (p.ins n).op = 5 \/ (p.ins n).op = 6) /\ (n + 1 < p.cl -> PosF p st pre post (q + 1) (n + 1)) := by
 rcases J37 S P with ⟨c, P2⟩ | ⟨⟨w, c⟩ | ⟨w, c⟩, P1⟩
 ·rw [c] at hp; exact absurd hp (by decide)
 ·rw [c] at hp
  unfold putI at hp;dsimp only at hp;rw [if_neg (by omega), if_neg (by omega)] at hp;omega
 ·refine ⟨c, ?_, fun h1 => (P1 h1).1⟩
  rw [c] at hp;by_cases o : (p.ins n).op = 3 \/ (p.ins n).op = 4 \/ (p.ins n).op = 5 \/ (p.ins n).op = 6
  ·exact o
  ·unfold putI at hp
   rw [if_neg (by omega), if_neg (by omega)] at hp;omega

theorem fn_at (ok : p.Ok 200 8) (hn : ∀ i, i < p.cl -> B64 (p.ins i).n) (hk : Known p l) (hc : (J09 p l).1 = 0) (S : Fnc p h st pre post) (hl : ∀ q j, lab q j = true ↔ FnSec p st pre post l q j) (q : Nat) (hp : 0 <= putI (h.ins q)) (r : Nat -> Int) (hI : FnI p st pre post l q r) :
  (h.ins q).c.toNat < h.rl /\ (h.ins q).a.toNat < 10 /\ (0 <= idxI r (h.ins q) /\ idxI r (h.ins q) < J0c (h.log (h.ins q).c.toNat)) /\ (∀ t, (∀ j, j < 10 -> lab q j = false -> r j = t j) -> idxI r (h.ins q) = idxI t (h.ins q)) := by
 obtain ⟨n, s, P, e, hs, hr⟩ := hI;obtain ⟨c, op, P1⟩ := Jej S P hp;have H := J1o ok hk hc P.1 e;have hg := J0s H.ins;have ha := hg.1 (by omega);obtain ⟨_, w2, w3⟩ := J8h ok hn hk hc P.1 e hs hr op 0 J1i;rw [c, <- (S.reg _ w2).1, <- S.rl];refine ⟨w2, by omega, w3, fun t ht => ?_⟩;have A := J9e S hl P e ht;unfold idxI;by_cases q5 : (p.ins n).op = 5 \/ (p.ins n).op = 6
 ·rw [if_pos q5, if_pos q5]
 ·rw [if_neg q5, if_neg q5]
  have hsec := H.secret;unfold J0g at hsec
  have hb : (s (p.ins n).b.toNat).s = false := by
   by_cases q3 : (p.ins n).op = 3
   ·rw [if_pos q3] at hsec; exact hsec
   ·rw [if_neg q3, if_pos (by omega)] at hsec; exact (Bool.or_eq_false_iff.1 hsec).1
  rw [A.1 _ (hg.2.1 (by omega)) hb]

theorem Jkd (ok : p.Ok 200 8) (hn : ∀ i, i < p.cl -> B64 (p.ins i).n) (hk : Known p l) (hc : (J09 p l).1 = 0) (S : Fnc p h st pre post) (hl : ∀ q j, lab q j = true ↔ FnSec p st pre post l q j) (q : Nat) (hp : putI (h.ins q) = 0) (r : Nat -> Int) (hI : FnI p st pre post l q r) :
  (∀ j, j < 10 -> j ≠ (h.ins q).a.toNat -> lab q j = true -> lab (q + 1) j = true) /\ (h.sec (h.ins q).c.toNat = true -> lab (q + 1) (h.ins q).a.toNat = true) /\ ∀ v, B64 v -> FnI p st pre post l (q + 1) (setR r (h.ins q).a v) := by
 obtain ⟨n, s, P, e, hs, hr⟩ := hI;obtain ⟨c, op, P1⟩ := Jej S P (by omega);rw [c] at hp |-;have H := J1o ok hk hc P.1 e
 have o35 : (p.ins n).op = 3 \/ (p.ins n).op = 5 := by
  unfold putI at hp;by_cases o : (p.ins n).op = 3 \/ (p.ins n).op = 5
  ·exact o
  ·rw [if_neg o, if_pos (by omega)] at hp; omega
 obtain ⟨u, eu, hu⟩ := H.plain (by omega) (by omega) (by omega);have hk1 := H.next (by omega) (by omega);have P2 := P1 hk1;have ha := (J0s H.ins).1 (by omega);have e3 : nextK p (p.ins n) s = setK s (p.ins n).a ⟨17, p.sec (p.ins n).c.toNat⟩ := by unfold nextK; rw [if_neg (by omega), if_neg (by omega), if_neg (by omega), if_pos o35]
 rw [e3] at hu;refine ⟨fun j hj ne => J6g S hl P e P2 eu (fun h8 q => (hu j h8).2 (by unfold setK; rw [if_neg ne]; exact q)), fun hsec => ?_, fun v hv => ?_⟩
 ·refine (J9d S hl P2 eu _).2 ⟨ha, (hu _ ha).2 ?_⟩
  unfold setK;rw [if_pos rfl, (S.reg _ (J8h ok hn hk hc P.1 e hs hr op 0 J1i).2.1).2];exact hsec
 ·have w := J8h ok hn hk hc P.1 e hs hr op v hv
  have := Jek ok hn hk hc P.1 e hs hr hv (J54 (s := ⟨n, r, memC p v, []⟩) rfl o35 w.1);obtain ⟨b1, u2, b2, b3, b4⟩ := this;exact ⟨n + 1, u2, P2, b2, b3, b4⟩

theorem Jch (ok : p.Ok 200 8) (hn : ∀ i, i < p.cl -> B64 (p.ins i).n) (hk : Known p l) (hc : (J09 p l).1 = 0) (S : Fnc p h st pre post) (hl : ∀ q j, lab q j = true ↔ FnSec p st pre post l q j) (q : Nat) (hp : putI (h.ins q) = 1) (r : Nat -> Int) (hI : FnI p st pre post l q r) :
  ((∀ j, j < 10 -> lab q j = true -> lab (q + 1) j = true) /\ (lab q (h.ins q).a.toNat = true -> h.sec (h.ins q).c.toNat = true) /\ FnI p st pre post l (q + 1) r) /\ B64 (r (h.ins q).a.toNat) := by
 obtain ⟨n, s, P, e, hs, hr⟩ := hI;obtain ⟨c, op, P1⟩ := Jej S P (by omega);rw [c] at hp |-;have H := J1o ok hk hc P.1 e
 have o46 : (p.ins n).op = 4 \/ (p.ins n).op = 6 := by
  unfold putI at hp;by_cases o : (p.ins n).op = 3 \/ (p.ins n).op = 5
  ·rw [if_pos o] at hp; omega
  ·omega
 obtain ⟨u, eu, hu⟩ := H.plain (by omega) (by omega) (by omega);have hk1 := H.next (by omega) (by omega);have P2 := P1 hk1;have ha := (J0s H.ins).1 (by omega);have hcr := (J8h ok hn hk hc P.1 e hs hr op 0 J1i).2.1;have e3 : nextK p (p.ins n) s = s := by unfold nextK; rw [if_neg (by omega), if_neg (by omega), if_neg (by omega), if_neg (by omega), if_neg (by omega), if_pos (by omega)]
 rw [e3] at hu;refine ⟨⟨fun j hj => J6g S hl P e P2 eu (fun h8 q => (hu j h8).2 q), fun hsl => ?_, ⟨n + 1, u, P2, eu, hs.mono hu (fun j hj => hr j (by omega)), hr⟩⟩, hr _ (by omega)⟩;have hs2 := ((J9d S hl P e _).1 hsl).2;have hsec := H.secret;unfold J0g at hsec;rw [<- (S.reg _ hcr).2];rcases o46 with m | m <;> simp [m, hs2] at hsec
 ·exact hsec.2
 ·exact hsec

theorem fn_op (ok : p.Ok 200 8) (hn : ∀ i, i < p.cl -> B64 (p.ins i).n) (hk : Known p l) (hc : (J09 p l).1 = 0) (S : Fnc p h st pre post) (hl : ∀ q j, lab q j = true ↔ FnSec p st pre post l q j) (q : Nat) (h7 : ¬ (h.ins q).op = 7) (h8 : ¬ (h.ins q).op = 8) (h9 : ¬ (h.ins q).op = 9) (h12 : ¬ (h.ins q).op = 12) (hp : ¬ 0 <= putI (h.ins q)) (r : Nat -> Int) (hI : FnI p st pre post l q r) :
  (∀ t, (∀ j, j < 10 -> lab q j = false -> r j = t j) -> (regsI r (h.ins q)).2 = (regsI t (h.ins q)).2 /\ ∀ j, j < 10 -> lab (q + 1) j = false -> (regsI r (h.ins q)).1 j = (regsI t (h.ins q)).1 j) /\ FnI p st pre post l (q + 1) (regsI r (h.ins q)).1 := by
 obtain ⟨n, s, P, e, hs, hr⟩ := hI;rcases J37 S P with ⟨c, _⟩ | ⟨⟨w, c⟩ | ⟨w, c⟩, P1⟩
 ·rw [c] at h12; exact absurd rfl h12
 ·rw [c] at h7 h8; dsimp only at h7 h8; omega
 ·rw [c] at h7 h8 h9 h12 hp |-
  have n3 : ¬ (p.ins n).op = 3 := fun q => hp (by unfold putI; simp [q])
  have n4 : ¬ (p.ins n).op = 4 := fun q => hp (by unfold putI; simp [q])
  have n5 : ¬ (p.ins n).op = 5 := fun q => hp (by unfold putI; simp [q])
  have n6 : ¬ (p.ins n).op = 6 := fun q => hp (by unfold putI; simp [q])
  have H := J1o ok hk hc P.1 e;obtain ⟨u, eu, hu⟩ := H.plain h7 h8 h9;have hk1 := H.next h7 h9;have P2 := (P1 hk1).1;have ha := (J0s H.ins).1 (by omega);refine ⟨fun t ht => ?_, ?_⟩
  ·have A := J9e S hl P e ht
   have R := Jec H.ins n3 n4 n5 n6 h7 h8 h9 H.secret A.1;refine ⟨R.2, Jd6 S hl P2 eu (R.1.mono hu) (fun j j8 j10 => ?_)⟩;rw [J50 ha r j j8, J50 ha t j j8];exact A.2 j j8 j10
  ·obtain ⟨b1, u2, b2, b3, b4⟩ := Jek ok hn hk hc P.1 e hs hr J1i (J3b (s := ⟨n, r, memC p 0, []⟩) rfl n3 n4 n5 n6 h7 h8 h9)
   exact ⟨n + 1, u2, P2, b2, b3, b4⟩

theorem Jh8 (ok : p.Ok 200 8) (hn : ∀ i, i < p.cl -> B64 (p.ins i).n) (hk : Known p l) (hc : (J09 p l).1 = 0) (S : Fnc p h st pre post) : Still h := by
 refine ⟨B64, fun q j => @decide (FnSec p st pre post l q j) (Classical.propDecidable _), FnI p st pre post l, fun _ q => q, ?_, ?_⟩
 ·have hl : ∀ q j, (fun q j => @decide (FnSec p st pre post l q j) (Classical.propDecidable _)) q j = true ↔ FnSec p st pre post l q j := fun q j => by simp
  refine ⟨?_, J1i, fun k _ c r I => Jkb ok hn hk hc S hl k c r I, fun k _ c r I => Jk8 ok hn hk hc S hl k c r I, fun k _ c r I => Jka ok hn hk hc S hl k c r I, fun k _ c r I => Jh7 ok hn hk hc S hl k c r I, fun k _ c r I => fn_at ok hn hk hc S hl k c r I, fun k _ c r I => Jkd ok hn hk hc S hl k c r I, fun k _ c r I => (Jch ok hn hk hc S hl k c r I).1, fun k _ c r I => (Jch ok hn hk hc S hl k c r I).2, fun k _ h7 h8 h9 h12 hp r I => fn_op ok hn hk hc S hl k h7 h8 h9 h12 hp r I⟩;exact ⟨by rw [<- S.rl]; exact ok.1.1, fun i hi => by rw [<- (S.reg i (by rw [S.rl]; exact hi)).1]; exact ok.1.2 i (by rw [S.rl]; exact hi)⟩
 ·obtain ⟨s, e, _⟩ := hk.closed.first
  refine ⟨0, s, ?_, e, fun j hj => J6k _, fun _ _ => J1i⟩;have := J6y (st := st) (pre := pre) (post := post) (p := p) ok.2.1;rw [S.s0] at this;exact this

end
end
section
open Go.RowKit
set_option linter.unusedSimpArgs false
set_option linter.unusedVariables false
def maskL (p : Prg) (i : Ins) : List Ins :=
 if i.op = 3 \/ i.op = 4 then [⟨10, 8, i.b, 0, i.n⟩, ⟨11, 8, 0, 0, J0c (p.log i.c.toNat)⟩, ⟨i.op, i.a, 8, i.c, 0⟩] else [i]
section
variable (M : Nat -> List Ins)
def codeG : Nat -> List Ins
 | 0 => []
 | n + 1 => codeG n ++ M n
def J1f (n : Nat) : Nat := (codeG M n).length
def leadG (i : Ins) : Ins := if i.op = 7 \/ i.op = 8 then ⟨i.op, i.a, i.b, i.c, (J1f M i.n.toNat : Int)⟩ else i
def hardG (cl q : Nat) : Ins := leadG M ((codeG M cl).getD q ⟨0, 0, 0, 0, 0⟩)
theorem J4q (n : Nat) : J1f M (n + 1) = J1f M n + (M n).length := by
 unfold J1f; rw [codeG, List.length_append]
theorem Jcb : ∀ (n k o : Nat), k < n -> o < (M k).length -> (codeG M n)[J1f M k + o]? = (M k)[o]?
 | 0, k, o, h, _ => absurd h (Nat.not_lt_zero _)
 | n + 1, k, o, h, ho => by
  rw [codeG];by_cases e : k = n
  ·subst e
   rw [List.getElem?_append_right (by unfold J1f; omega)]
   congr 1
   unfold J1f; omega
  ·have h2 := Jcb n k o (by omega) ho
   have hlt : J1f M k + o < (codeG M n).length := by
    have e1 : (M k)[o]? ≠ none := by
     rw [Ne, List.getElem?_eq_none_iff]; omega
    rw [<- h2] at e1;rw [Ne, List.getElem?_eq_none_iff] at e1;omega
   rw [List.getElem?_append_left hlt];exact h2
theorem Jcj {cl k o : Nat} {i : Ins} (hk : k < cl) (e : (M k)[o]? = some i) : hardG M cl (J1f M k + o) = leadG M i := by
 unfold hardG;rw [List.getD_eq_getElem?_getD, Jcb M cl k o hk (List.getElem?_eq_some_iff.1 e).1, e]
 rfl
theorem J22 {i : Ins} (h : ¬ (i.op = 7 \/ i.op = 8)) : leadG M i = i := by unfold leadG; rw [if_neg h]
end
abbrev maskK (p : Prg) (n : Nat) : List Ins := maskL p (p.ins n)
abbrev codeL (p : Prg) : Nat -> List Ins := codeG (maskK p)
abbrev J0r (p : Prg) : Nat -> Nat := J1f (maskK p)
abbrev hardL (p : Prg) : Nat -> Ins := hardG (maskK p) p.cl
def hardP (p : Prg) : Prg := ⟨p.rl, p.log, p.sec, J0r p p.cl, hardL p⟩

theorem J2v (p : Prg) (n : Nat) : (maskL p (p.ins n)).length = sizeK p n := by
 unfold maskL sizeK
 split <;> rfl
theorem J3m (p : Prg) (n : Nat) : J0r p (n + 1) = J0r p n + sizeK p n := (J4q _ n).trans (by rw [J2v])
theorem J7d (p : Prg) : ∀ n, J0r p n <= 3 * n
 | 0 => Nat.le_refl _
 | n + 1 => by
  have := J7d p n;have := (J0z p n).2;rw [J3m]; omega
theorem J4w (p : Prg) (k o : Nat) (i : Ins) (hk : k < p.cl) (e : (maskL p (p.ins k))[o]? = some i) : hardL p (J0r p k + o) = leadG (maskK p) i := Jcj _ hk e

theorem J9l (p : Prg) : Hdn p (hardP p) (J0r p) 8 := by
 refine ⟨.inl rfl, rfl, fun i hi => ⟨rfl, rfl⟩, rfl, fun k hk => J3m p k, rfl, fun k hk hm => ?_, fun k hk hg => ?_, fun k hk hm hg => ?_⟩
 ·have hs := J2b hm
  have e : maskL p (p.ins k) = [⟨10, 8, (p.ins k).b, 0, (p.ins k).n⟩, ⟨11, 8, 0, 0, J0c (p.log (p.ins k).c.toNat)⟩, ⟨(p.ins k).op, (p.ins k).a, 8, (p.ins k).c, 0⟩] := by unfold maskL; rw [if_pos hm]
  refine ⟨?_, ?_, ?_⟩
  ·have := J4w p k 0 _ hk (by rw [e]; rfl)
   rw [J22 _ (by dsimp only; omega)] at this;exact this
  ·have := J4w p k 1 _ hk (by rw [e]; rfl)
   rw [J22 _ (by dsimp only; omega)] at this;exact this
  ·have := J4w p k 2 _ hk (by rw [e]; rfl)
   rw [J22 _ (by dsimp only; omega)] at this;exact this
 ·have hs : sizeK p k = 1 := J2t (by omega)
  have e : maskL p (p.ins k) = [p.ins k] := by unfold maskL; rw [if_neg (by omega)]
  have := J4w p k 0 _ hk (by rw [e]; rfl);unfold leadG at this;rw [if_pos hg] at this;exact this
 ·have hs : sizeK p k = 1 := J2t hm
  have e : maskL p (p.ins k) = [p.ins k] := by unfold maskL; rw [if_neg hm]
  have := J4w p k 0 _ hk (by rw [e]; rfl);rw [J22 _ hg] at this;exact this

def flatI : List Ins -> List Value
 | [] => []
 | i :: l => V i.op :: V i.a :: V i.b :: V i.c :: V i.n :: flatI l
theorem J5l : ∀ l : List Ins, (flatI l).length = l.length * 5
 | [] => rfl
 | s :: l => by simp [flatI, J5l l]; omega
theorem J3u : ∀ l l' : List Ins, flatI (l ++ l') = flatI l ++ flatI l'
 | [], _ => rfl
 | s :: l, l' => by simp [flatI, J3u l l']
theorem Jce : ∀ (l : List Ins) (i : Nat) (s : Ins), l[i]? = some s -> (flatI l)[i * 5]? = some (V s.op) /\ (flatI l)[i * 5 + 1]? = some (V s.a) /\ (flatI l)[i * 5 + 2]? = some (V s.b) /\ (flatI l)[i * 5 + 3]? = some (V s.c) /\ (flatI l)[i * 5 + 4]? = some (V s.n)
 | [], i, s, h => by simp at h
 | x :: l, 0, s, h => by simp at h; subst h; simp [flatI]
 | x :: l, i + 1, s, h => by
  have := Jce l i s (by simpa using h);rw [show (i + 1) * 5 = i * 5 + 1 + 1 + 1 + 1 + 1 by omega, flatI];simpa using this
theorem J6j : ∀ (l : List Ins), ∀ u ∈ flatI l, u.oneCell' = true
 | [], u, h => by simp [flatI] at h
 | i :: l, u, h => by
  simp only [flatI, List.mem_cons] at h;rcases h with rfl | rfl | rfl | rfl | rfl | h
  ·rfl
  ·rfl
  ·rfl
  ·rfl
  ·rfl
  ·exact J6j l u h
def fenK (p : Prg) (pre post : Nat -> Bool) (n : Nat) : List Ins := (if pre n then [J21] else []) ++ (p.ins n :: (if post n then [J21] else []))
def fenP (p : Prg) (pre post : Nat -> Bool) : Prg := ⟨p.rl, p.log, p.sec, J1f (fenK p pre post) p.cl, hardG (fenK p pre post) p.cl⟩

theorem J6h (p : Prg) (pre post : Nat -> Bool) (n : Nat) : (fenK p pre post n).length = sizeF pre post n := by
 unfold fenK sizeF;cases pre n <;> cases post n <;> rfl
theorem Jgu (p : Prg) (pre post : Nat -> Bool) (both : ∀ k, k < p.cl -> (p.ins k).op = 8 -> (pre (p.ins k).n.toNat = true \/ (p.ins (p.ins k).n.toNat).op = 12) /\ (post k = true \/ pre (k + 1) = true \/ (p.ins (k + 1)).op = 12)) : Fnc p (fenP p pre post) (J1f (fenK p pre post)) pre post := by
 have at_ : ∀ k o i, k < p.cl -> (fenK p pre post k)[o]? = some i -> (fenP p pre post).ins (J1f (fenK p pre post) k + o) = leadG (fenK p pre post) i := fun k o i hk e => Jcj _ hk e
 have self : ∀ k, (fenK p pre post k)[(pre k).toNat]? = some (p.ins k) := fun k => by
  unfold fenK;cases pre k <;> simp
 refine ⟨rfl, fun i hi => ⟨rfl, rfl⟩, rfl, fun k hk => by rw [J4q, J6h], rfl, fun k hk h => ?_, fun k hk h => ?_, fun k hk h => ?_, fun k hk h => ?_, both⟩
 ·have := at_ k 0 J21 hk (by unfold fenK; rw [h]; rfl)
  rw [Nat.add_zero, J22 _ (by unfold J21; simp)] at this;exact this
 ·have := at_ k ((pre k).toNat + 1) J21 hk (by unfold fenK; rw [h]; cases pre k <;> simp)
  rw [J22 _ (by unfold J21; simp), <- Nat.add_assoc] at this;exact this
 ·rw [at_ k _ _ hk (self k)]
  unfold leadG;rw [if_pos h]
 ·rw [at_ k _ _ hk (self k), J22 _ h]
theorem Jae (p : Prg) (pre post : Nat -> Bool) : ∀ n, n <= J1f (fenK p pre post) n /\ J1f (fenK p pre post) n <= 3 * n
 | 0 => ⟨Nat.le_refl _, Nat.le_refl _⟩
 | n + 1 => by
  have := Jae p pre post n;have := J3a pre post n;rw [J4q, J6h]; omega
def ledB (p : Prg) : Nat -> Nat -> Bool
  | 0, _ => false
  | k + 1, j => ledB p k j || ((p.ins k).op == 8 && (j == k + 1 || j == (p.ins k).n.toNat))
theorem Jf2 (p : Prg) (j : Nat) : ∀ n k, k <= n -> ledB p k j = true -> ledB p n j = true
  | 0, k, h, e => by obtain rfl : k = 0 := by omega
                     exact e
  | n + 1, k, h, e => by
    by_cases c : k = n + 1
    · subst c; exact e
    · rw [ledB, Jf2 p j n k (by omega) e]; rfl
theorem Jht (p : Prg) {k : Nat} (hk : k < p.cl) (h8 : (p.ins k).op = 8) : ledB p p.cl (k + 1) = true /\ ledB p p.cl (p.ins k).n.toNat = true := by
  refine ⟨Jf2 p _ p.cl (k + 1) hk ?_, Jf2 p _ p.cl (k + 1) hk ?_⟩
  · simp [ledB, h8]
  · simp [ledB, h8]
theorem Jhu {p : Prg} {k : Nat} (h8 : ¬ (p.ins k).op = 8) (j : Nat) : ledB p (k + 1) j = ledB p k j := by simp [ledB, h8]

def preF (p : Prg) (k : Nat) : Bool := ledB p p.cl k && !((p.ins k).op == 12)
abbrev noF (_ : Nat) : Bool := false
abbrev fencK (p : Prg) : Nat -> List Ins := fenK p (preF p) noF
abbrev J10 (p : Prg) : Nat -> Nat := J1f (fencK p)
def fencP (p : Prg) : Prg := fenP p (preF p) noF
theorem Jcc (p : Prg) (n : Nat) : fencK p n = if preF p n then [J21, p.ins n] else [p.ins n] := by
  unfold fencK fenK;cases preF p n <;> rfl
theorem Jed (p : Prg) : Fnc p (fencP p) (J10 p) (preF p) noF :=
  Jgu p (preF p) noF fun k hk h8 => by
    obtain ⟨h1, h2⟩ := Jht p hk h8;unfold preF;rw [h1, h2];refine ⟨?_, .inr ?_⟩
    · by_cases c : (p.ins (p.ins k).n.toNat).op = 12
      · exact .inr c
      · exact .inl (by simp [c])
    · by_cases c : (p.ins (k + 1)).op = 12
      · exact .inr c
      · exact .inl (by simp [c])
theorem Jad (p : Prg) (n : Nat) : n <= J10 p n /\ J10 p n <= 3 * n := Jae p (preF p) noF n

theorem J6d {p : Prg} (ok : p.Ok 200 8) : ∀ n, n <= p.cl -> ∀ i ∈ codeG (fencK p) n, i.op = 7 \/ i.op = 8 -> 0 <= i.n /\ i.n < p.cl
  | 0, _, i, hi, _ => by simp [codeG] at hi
  | n + 1, hn, i, hi, h => by
    rcases List.mem_append.1 hi with hi | hi
    · exact J6d ok n (by omega) i hi h
    · have hI := ok.2.2.2 n (by omega)
      have key : i = p.ins n -> 0 <= i.n /\ i.n < p.cl := fun e => by
        rw [<- e] at hI;unfold InsOk at hI;rcases h with h | h
        · simp [h] at hI; exact hI.2.2.2
        · simp [h] at hI; exact hI.2.2.2
      rw [Jcc] at hi;cases c : preF p n with
      | true =>
        rw [c] at hi;simp only [if_true, List.mem_cons, List.not_mem_nil, or_false] at hi;rcases hi with rfl | hi
        · exact absurd h (by unfold J21; simp)
        · exact key hi
      | false =>
        rw [c] at hi;exact key (by simpa using hi)
end
section
open Go.RowKit
set_option linter.unusedSimpArgs false
set_option linter.unusedVariables false
set_option maxRecDepth 8000
def NewsAt (w : World) (g : Nat) (L : List Ins) : Prop := ∀ j u, (flatI L)[j]? = some u -> w.cell? ((⟨g, 0, none⟩ : Addr).add j) = some u
theorem NewsAt.of {w : World} {g : Nat} {L : List Ins} {cs : Array Value} {T : TypeId} (h : Blk w g cs T) (e : cs.toList = flatI L) : NewsAt w g L := fun j u hu => by
 rw [<- e] at hu;exact World.news_of_block h j u hu

theorem Jiq (l : Int) (h0 : 0 <= l) (h1 : l <= 6) (w : World) : (Op.shift .shl .i64 1 .i64 l).run Tryz.prog w = .ok (V (J0c l)) w := by
 have : l = 0 \/ l = 1 \/ l = 2 \/ l = 3 \/ l = 4 \/ l = 5 \/ l = 6 := by omega
 rcases this with rfl | rfl | rfl | rfl | rfl | rfl | rfl
 all_goals (clear h0 h1; go_simp; rfl)

theorem J9r (p : Prg) (i : Ins) (ra : Option Addr) (rc rb ro : Nat) (w : World) (hra : 0 < p.rl -> ra = some ⟨rb, ro, none⟩) (hr : RegsAt w rb ro p.rl p.log p.sec) (hok : J0h p.rl p.log) (hc : i.op = 3 \/ i.op = 4 -> Rgn p.rl i.c) :
  Calls Tryz.prog 35 #[.agg #[V i.op, V i.a, V i.b, V i.c, V i.n], .slice ra p.rl rc] w fun e w' => ∃ g, e = .returned (.slice (some ⟨g, 0, none⟩) (maskL p i).length (maskL p i).length) /\ NewsAt w' g (maskL p i) /\ More w w' := by
 obtain ⟨op, a, b, c, n⟩ := i;dsimp only at hc |-;by_cases hm : op = 3 \/ op = 4
 ·have hL : maskL p ⟨op, a, b, c, n⟩ = [⟨10, 8, b, 0, n⟩, ⟨11, 8, 0, 0, J0c (p.log c.toNat)⟩, ⟨op, a, 8, c, 0⟩] := by unfold maskL; rw [if_pos hm]
  rw [hL];have hc' := hc hm;obtain ⟨c0, c1⟩ := hc';obtain ⟨cn, rfl⟩ := Int.eq_ofNat_of_zero_le c0;have hcn : cn < p.rl := by omega
  have hci : (cn : Int) < (p.rl : Int) := by omega
  obtain rfl := hra (by omega);have hrc := (hr cn hcn).1;have hlg := hok.2 cn hcn;simp only [Int.toNat_natCast] at hL |-;obtain ⟨lg, Hlg⟩ : ∃ x, Hid (p.log cn = x) := ⟨_, rfl⟩;obtain ⟨rl, Hrl⟩ : ∃ x, Hid (p.rl = x) := ⟨_, rfl⟩;rw [Hlg.out] at hrc hlg |-;rw [Hrl.out] at hci |-;clear hL hc c0 c1 hra hok hr Hlg Hrl hcn;have hsh := Jiq lg hlg.1 hlg.2;obtain ⟨wd, Hwd⟩ : ∃ x, Hid (J0c lg = x) := ⟨_, rfl⟩;rw [Hwd.out] at hsh |-;clear hlg Hwd;have Hm : Hid (op = 3 \/ op = 4) := hm;clear hm;obtain ⟨W, HW⟩ : ∃ W : World, Hid (W = w.alloc (.cells #[V op, V a, V b, V (cn : Int), V n] 42)) := ⟨_, rfl⟩;have HwW : Hid (More w W) := HW.out ▸ ((More.refl _).alloc _ _);have HbW : Hid (Blk W w.heap.size #[V op, V a, V b, V (cn : Int), V n] 42) := HW.out ▸ Blk.last _ _ _;obtain ⟨S, HS⟩ : ∃ S : World -> Prop, Hid (∀ w', S w' ↔ More W w') := ⟨fun w' => More W w', fun _ => Iff.rfl⟩;have HS0 : S W.drew := (HS.out _).2 (More.refl _).drew;have k0 : ∀ i : { w' // S w' }, i.val.cell? ⟨w.heap.size, 0, none⟩ = some (V op) := fun i => (HbW.out.more ((HS.out _).1 i.property)).cell rfl
  have k1 : ∀ i : { w' // S w' }, i.val.cell? ⟨w.heap.size, 1, none⟩ = some (V a) := fun i => (HbW.out.more ((HS.out _).1 i.property)).cell rfl
  have k2 : ∀ i : { w' // S w' }, i.val.cell? ⟨w.heap.size, 2, none⟩ = some (V b) := fun i => (HbW.out.more ((HS.out _).1 i.property)).cell rfl
  have k3 : ∀ i : { w' // S w' }, i.val.cell? ⟨w.heap.size, 3, none⟩ = some (V (cn : Int)) := fun i => (HbW.out.more ((HS.out _).1 i.property)).cell rfl
  have k4 : ∀ i : { w' // S w' }, i.val.cell? ⟨w.heap.size, 4, none⟩ = some (V n) := fun i => (HbW.out.more ((HS.out _).1 i.property)).cell rfl
  have kr : ∀ i : { w' // S w' }, i.val.cell? ⟨rb, ro + cn * 2, none⟩ = some (V lg) := fun i => ((HS.out _).1 i.property).cell (HwW.out.cell hrc)
  have hne : Nonempty { w' // S w' } := ⟨⟨_, HS0⟩⟩;clear hrc;have hop := Hm.out;clear Hm;rcases hop with rfl | rfl
  all_goals
   go_enter Tryz.func35, Tryz.ntmps35;go_wp2_with (fail)
   rw [<- HW.out];refine J03 (S := S) [(0, true), (1, true), (2, true), (3, true), (4, true), (5, true), (6, true), (7, true), (8, true), (9, true), (10, true), (11, true), (12, true), (13, true), (14, true), (15, true), (16, true), (17, true), (18, true), (19, true), (20, false), (21, true)] (by kernel_rfl) (by kernel_rfl) (by kernel_rfl) HS0 ?_
   iterate 20 (refine J00 rfl (by kernel_rfl) (fun K hK => ?_); go_simp; refine hK _ _ ?_; clear hK K)
   refine J02 rfl (by kernel_rfl) (fun K hK => ?_); go_simp;refine hK _ _ ((HS.out _).2 ((More.refl _).alloc _ _).drew) ?_; clear hK K;refine J00 rfl (by kernel_rfl) (fun K hK => ?_); go_simp; refine hK _ _ ?_; clear hK K;refine J04 ?_;clear k0 k1 k2 k3 k4 kr hne HS0 hsh;go_wp2;go_ret;refine ⟨_, rfl, ?_, ((HwW.out.alloc _ _).drew)⟩;exact NewsAt.of (T := 42) (Blk.last W _ 42) rfl
 ·have hL : maskL p ⟨op, a, b, c, n⟩ = [⟨op, a, b, c, n⟩] := by unfold maskL; rw [if_neg hm]
  rw [hL];have e3 : (op != 3) = true := by simp; exact fun h => hm (.inl h)
  have e4 : (op != 4) = true := by simp; exact fun h => hm (.inr h)
  clear hL hm hc hra hr hok;go_enter Tryz.func35, Tryz.ntmps35;go_wp2;go_ret;refine ⟨_, rfl, NewsAt.of (cs := #[V op, V a, V b, V c, V n]) (T := 42) (by simpa using Blk.last (w.alloc (.cells #[V op, V a, V b, V c, V n] 42)) #[V op, V a, V b, V c, V n] 42) rfl, ((More.refl _).alloc _ _).alloc _ _⟩
end
end Go.Proofs.YtapagihngaiebaaGreat
