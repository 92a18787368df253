/-
  The texts DrScript, DrOn, one behind the other, with what is used of them.
-/
import Derived.Test.YtephohhigbfafaaGreatDoorJoined10
namespace Go.Proofs.YtephohhigbfafaaGreatDoor
section
open Go.RowKit
set_option linter.unusedSimpArgs false
set_option linter.unusedVariables false
set_option maxRecDepth 8000
def Keep5 (w w' : World) : Prop := ∀ (k : Nat) (c : Array Value) (t : TypeId) (fz : Nat × Nat), w.heap[k]? = some (.cells c t fz) → Own5 t → w'.heap[k]? = some (.cells c t fz)
theorem Jac {w w' : World} (k : Keep5 w w') {B : Nat} {e : TypeId} {s : Nat} {v : Value} {n : Nat} {xs : List Value} (h : w.ownsRow B e s v n xs) (h5 : Own5 e) : w'.ownsRow B e s v n xs := by
 obtain ⟨h1, h | ⟨g, cap, cur, e1, e2, e3, e4⟩⟩ := h
 ·exact ⟨h1, .inl h⟩
 ·exact ⟨h1, .inr ⟨g, cap, cur, e1, e2, k g _ _ _ e3 h5, e4⟩⟩
theorem Ply.keep {B G : Nat} {rs : List (Int × Bool)} {cs : List Ins} {ms : List (List Int)} {rv cv mv : Value} {w w' : World} (h : Ply 63 B G rs cs ms rv cv mv w) (k : Keep5 w w') : Ply 63 B G rs cs ms rv cv mv w' := by
 obtain ⟨gs, g⟩ := h.mem
 exact ⟨k _ _ _ _ h.blk own5P, h.lo, h.ty, Jac k h.ownR own5R, Jac k h.ownC own5I, gs, g.len, g.nodup, Jac k g.own own5S, fun i b l e1 e2 => ⟨(g.blk i b l e1 e2).1, k _ _ _ _ (g.blk i b l e1 e2).2 own5W⟩⟩
theorem Jk7 {w w' : World} {B b : Nat} {l : List UInt8} (h : Bld w B b l) (o : Oth b w w') : Keep5 w w' := fun k c t fz hk h5 => by
 refine o k _ hk ?_ ?_
 ·intro e
  obtain rfl : k = b := Option.some.inj e
  have hb : ∃ q v, w.heap[k]? = some (.cells #[q, v] 67 (0, 0)) := by
   rcases h with ⟨_, v, e, _⟩ | ⟨_, v, e, _⟩
   ·exact ⟨_, _, e⟩
   ·exact ⟨_, _, e⟩
  obtain ⟨q, v, hb⟩ := hb
  rw [hb] at hk
  injection (Option.some.inj hk) with _ e _
  subst e
  exact not5 (by decide) (by decide) (by decide) (by decide) (by decide) h5
 ·intro c' fz' e
  injection e with _ e _
  subst e
  exact not5 (by decide) (by decide) (by decide) (by decide) (by decide) h5
theorem Bld.spar {w w' : World} {B b : Nat} {l : List UInt8} (h : Bld w B b l) (s : Spar w w') : Bld w' B b l := by
 have key : ∀ q, Lib.BuilderAtF 67 5 B b q (Lib.byteCells l) w → Lib.BuilderAtF 67 5 B b q (Lib.byteCells l) w' := fun q hq => by
  obtain ⟨h1, v, h2, ⟨h3, h4⟩, h5⟩ := hq
  refine ⟨h1, v, s _ _ h2 (fun c t fz e => ?_), ⟨h3, ?_⟩, h5⟩
  ·injection e with _ e _
   subst e
   exact not5 (by decide) (by decide) (by decide) (by decide) (by decide)
  ·rcases h4 with h4 | ⟨g, cap, cur, fz, e1, e2, e3, e4⟩
   ·exact .inl h4
   ·refine .inr ⟨g, cap, cur, fz, e1, e2, s _ _ e3 (fun c t fz e => ?_), e4⟩
    injection e with _ e _
    subst e
    exact not5 (by decide) (by decide) (by decide) (by decide) (by decide)
 rcases h with h | h
 ·exact .inl (key _ h)
 ·exact .inr (key _ h)
theorem Jbg : J20 [] = [] := rfl
theorem Ji1 {s : List UInt8} (h : ¬ (10 : UInt8) ∈ s) (h0 : ¬ s = []) : J20 s = [s] := by
 unfold J20
 rw [J40 10 s h]
 simp [h0]
theorem ply0 (w : World) (c : Array Value) (hc : c = #[.slice none 0 0, .slice none 0 0, .slice none 0 0]) : Ply 63 (w.heap.size + 1) w.heap.size [] [] [] (.slice none 0 0) (.slice none 0 0) (.slice none 0 0) (w.alloc (.cells c 63)) := by
 subst hc
 exact ⟨Blk.last _ _ _, rfl, by unfold TyOk; decide, World.ownsRow_nil _ _ _ _, World.ownsRow_nil _ _ _ _, [], rfl, List.nodup_nil, World.ownsRow_nil _ _ _ _, fun i g l h _ => by simp at h⟩

set_option maxHeartbeats 8000000 in
theorem Jge (s : List UInt8) (w : World) (HL0 : LaiD w) (h8 : 8 ≤ w.heap.size) (hl : s.length < 4611686018427387904) :
  Calls Tryz.prog 7 #[.string (txt s)] w fun e w' => ∃ a, e = .returned (.string (txt a)) ∧ ScriptTo s a ∧ More w w' := by
 suffices hP : ∀ P : Ending → World → Prop, (∀ a w', ScriptTo s a → More w w' → P (.returned (.string (txt a))) w') → Calls Tryz.prog 7 #[.string (txt s)] w P from hP _ (fun a w' h m => ⟨a, rfl, h, m⟩)
 intro P hP0
 have HP : Hid (∀ a w', ScriptTo s a → More w w' → P (.returned (.string (txt a))) w') := hP0
 obtain ⟨G, HG⟩ : ∃ x, Hid (w.heap.size = x) := ⟨_, rfl⟩
 have HM : Hid (∀ wr, Below G w wr → More w wr) := fun wr m => by show Below w.heap.size w wr; rw [HG.out]; exact m
 have CC : Hid (∀ (r : List UInt8) (d : ByteArray), d = txt r → r.length ≤ s.length → ∀ w1, Calls Tryz.prog 19 #[.string d, .string ⟨#[10]⟩] w1 fun e w' => ∃ (d1 d2 : ByteArray) (ok : Bool), e = .returned (.tuple #[.string d1, .string d2, .bool ok]) ∧ J6q r 10 d1 d2 ok ∧ More w1 w') := fun r d e hs w1 => by
  subst e
  exact Jb5 r (by omega) 10 w1
 have CA : Hid (∀ (r : List UInt8) (d : ByteArray), d = txt r → r.length ≤ s.length → ∀ (x : Sta) w1, (∃ rv cv mv, Dp (G + 1) G x rv cv mv w1) → Wf x → LaiG G w1 → Calls Tryz.prog 21 #[.pointer (some ⟨G, 0, none⟩), .string d] w1 fun e w' => ∃ y a, e = .returned (.string (txt a)) ∧ SLineTo x r y a ∧ DAns (G + 1) G w1 y w') := fun r d e hs x w1 hp hw hL => by
  subst e
  obtain ⟨rv, cv, mv, hp⟩ := hp
  exact Jb0 r w1 hp hw hL (by omega)
 have CWr : Hid (∀ (l m : List UInt8) (d : ByteArray) w', d ++ txt [10] = txt m → Bld w' (G + 1) (G + 1) l → l.length + m.length ≤ 140737488355328 → G + 1 ≤ w'.heap.size → Calls Tryz.prog 20 #[.pointer (some ⟨G + 1, 0, none⟩), .string (d ++ ⟨#[10]⟩)] w' fun e w'' => ∃ n : Int, e = .returned (.tuple #[V n, .nilIface]) ∧ Bld w'' (G + 1) (G + 1) (l ++ m) ∧ Below (G + 1) w' w'' ∧ Oth (G + 1) w' w'') := fun l m d w' hd hb hl hB => by
  have hd' : d ++ ⟨#[10]⟩ = txt m := hd
  rw [hd']
  exact (J18 (G + 1) (G + 1) l m w' hb hl hB).mono (fun e w'' h => ⟨_, h.1, h.2.1, h.2.2.1, h.2.2.2⟩)
 obtain ⟨W, HW⟩ : ∃ w_ : World, Hid (w_ = (w.alloc (.cells #[.slice none 0 0, .slice none 0 0, .slice none 0 0] 63)).alloc (.cells #[.pointer none, .slice none 0 0] 67)) := ⟨_, rfl⟩
 have H0 : Hid ((∃ rv cv mv, Dp (G + 1) G sta0 rv cv mv W) ∧ Bld W (G + 1) (G + 1) [] ∧ LaiG G W ∧ Below G w W) := by
  have hz : (w.alloc (.cells #[.slice none 0 0, .slice none 0 0, .slice none 0 0] 63)).heap.size = G + 1 := by simp [HG.out]
  have hb := J3f (w.alloc (.cells #[.slice none 0 0, .slice none 0 0, .slice none 0 0] 63))
  rw [hz, ← HW.out] at hb
  have hm : Below G w W := by
   have : More w W := HW.out ▸ ((More.refl _).alloc _ _).alloc _ _
   have h2 : Below w.heap.size w W := this
   rw [HG.out] at h2
   exact h2
  have hp := (ply0 w _ rfl).more ((More.refl (w.alloc (.cells #[.slice none 0 0, .slice none 0 0, .slice none 0 0] 63))).alloc #[.pointer none, .slice none 0 0] 67)
  rw [← HW.out, HG.out] at hp
  exact ⟨⟨_, _, _, hp⟩, hb, LaiG.low ⟨HL0, by rw [← HG.out]; exact h8⟩ hm, hm⟩
 obtain ⟨ss, Hss⟩ : ∃ x, Hid (txt s = x) := ⟨_, rfl⟩
 rw [Hss.out]
 clear hP0 HL0 h8 hl
 go_enter Tryz.func7, Tryz.ntmps7
 go_wp2_with (fail)
 rw [← HW.out]
 rw [HG.out]
 go_loopg [0, 6] 40 (fun g dv kv wr => ∃ (k : Nat) (d : ByteArray), k + g = 40 ∧ dv = .string d ∧ kv = V k ∧ Hid (∃ (rest : List UInt8) (ls : List (List UInt8)) (x : Sta) (a : List UInt8), d = txt rest ∧ rest.length ≤ s.length ∧ ls.length = k ∧ J20 s = ls ++ J20 rest ∧ PlayTo sta0 ls x a ∧ a.length ≤ 2001 * k ∧ Wf x ∧ (∃ rv cv mv, Dp (G + 1) G x rv cv mv wr) ∧ Bld wr (G + 1) (G + 1) a ∧ LaiG G wr ∧ Below G w wr))
 case atStart => exact ⟨0, ss, by omega, rfl, rfl, s, [], sta0, [], Hss.out.symm, Nat.le_refl _, rfl, rfl, ⟨rfl, rfl⟩, by simp, wf0, H0.out⟩
 case round =>
  obtain ⟨k, d, hkg, rfl, rfl, Hr⟩ := hrel
  clear H0
  obtain ⟨rest, ls, x, a, e1, e2, e3, e4, e5, e6, e7, e8, e9, e10, e11⟩ := Hr.out
  have HA : Hid (d = txt rest ∧ rest.length ≤ s.length ∧ ls.length = k ∧ J20 s = ls ++ J20 rest ∧ PlayTo sta0 ls x a ∧ a.length ≤ 2001 * k ∧ Wf x ∧ (∃ rv cv mv, Dp (G + 1) G x rv cv mv wr) ∧ Bld wr (G + 1) (G + 1) a ∧ LaiG G wr ∧ Below G w wr) := ⟨e1, e2, e3, e4, e5, e6, e7, e8, e9, e10, e11⟩
  have hG1 : G + 1 < wr.heap.size := by
   rcases e9 with q | q
   ·exact q.lt
   ·exact q.lt
  have CS := J04 (J22 (G + 1) (G + 1) a wr e9 (Nat.le_of_lt hG1))
  have HE : Hid (ScriptTo s a → ∀ w', Below (G + 1) wr w' → P (.returned (.string (txt a))) w') := fun hs w' m => HP.out a w' hs (HM.out w' (e11.trans (Below.mono m (Nat.le_succ G))))
  have HG1 := J04 hG1
  clear Hr e1 e2 e3 e4 e5 e6 e7 e8 e9 e10 e11 hG1
  cases gk with
  | zero =>
   obtain rfl : k = 40 := by omega
   have HF := J04 (HE.out ⟨x, by rw [HA.out.2.2.2.1, List.take_append_of_le_length (by rw [HA.out.2.2.1]; exact Nat.le_refl _), List.take_of_length_le (by rw [HA.out.2.2.1]; exact Nat.le_refl _)]; exact HA.out.2.2.2.2.1⟩)
   obtain ⟨R, HR⟩ : ∃ R, Hid (txt a = R) := ⟨_, rfl⟩
   rw [HR.out] at CS HF
   clear HE HP CC CA CWr
   go_wp2_with (fail)
   refine CS.out.mono ?_
   rintro e w3 ⟨rfl, _, b3, _⟩
   have HF2 := J04 (HF.out w3 b3)
   clear HF b3 CS
   go_wp2
   exact HF2.out
  | succ g =>
   have hk : (k : Int) < 40 := by omega
   have hk63 : wrap64 ((k : Int) + 1) = (k : Int) + 1 := by unfold wrap64; omega
   by_cases hr0 : rest = []
   ·have hd0 : d.toList = [] := by rw [HA.out.1, ByteArray.toList_mk, hr0]
    have hd1 : (d.toList == []) = true := by simp [hd0]
    have HF := J04 (HE.out ⟨x, by
     have h4 := HA.out.2.2.2.1
     rw [hr0, Jbg, List.append_nil] at h4
     rw [h4, List.take_of_length_le (by have := HA.out.2.2.1; omega)]
     exact HA.out.2.2.2.2.1⟩)
    obtain ⟨R, HR⟩ : ∃ R, Hid (txt a = R) := ⟨_, rfl⟩
    rw [HR.out] at CS HF
    clear HE HP CC CA CWr
    go_wp2_with (fail)
    refine CS.out.mono ?_
    rintro e w3 ⟨rfl, _, b3, _⟩
    have HF2 := J04 (HF.out w3 b3)
    clear HF b3 CS
    go_wp2
    exact HF2.out
   ·have hd0 : ¬ d.toList = [] := by rw [HA.out.1, ByteArray.toList_mk]; exact hr0
    have hd1 : (d.toList == []) = false := by simp only [beq_eq_false_iff_ne]; exact hd0
    have hd2 : d.toList.isEmpty = false := by cases q : d.toList with
     | nil => exact absurd q hd0
     | cons => rfl
    have C1 := J04 (CC.out rest d HA.out.1 HA.out.2.1 wr)
    clear HE CS CC
    go_wp2_with (fail)
    refine C1.out.mono ?_
    rintro e w2 ⟨d1, d2, ok, rfl, hc, m2⟩
    have H2 : Hid (∃ (l : List UInt8) (rest2 : List UInt8), d1 = txt l ∧ d2 = txt rest2 ∧ l.length ≤ s.length ∧ rest2.length ≤ s.length ∧ J20 rest = l :: J20 rest2) := by
     have hr := HA.out.2.1
     rcases hc with ⟨rfl, u, v, e, n, rfl, rfl⟩ | ⟨rfl, n, rfl, rfl⟩
     ·have hx : u.length + v.length + 1 = rest.length := by rw [e]; simp; omega
      refine ⟨u, v, rfl, rfl, by omega, by omega, ?_⟩
      rw [e, J99, J40 10 u n]
      rfl
     ·exact ⟨rest, [], rfl, rfl, hr, by simp, by rw [Ji1 n hr0, Jbg]⟩
    obtain ⟨l, rest2, f1, f2, f3, f4, f5⟩ := H2.out
    have hlow2 : Below G wr w2 := Below.mono m2 (Nat.le_of_lt (Nat.lt_of_succ_lt HG1.out))
    have C2 := J04 (CA.out l d1 f1 f3 x w2 (by obtain ⟨rv, cv, mv, q⟩ := HA.out.2.2.2.2.2.2.2.1; exact ⟨rv, cv, mv, q.more m2⟩) HA.out.2.2.2.2.2.2.1 (HA.out.2.2.2.2.2.2.2.2.2.1.low hlow2))
    have HB2 : Hid (Bld w2 (G + 1) (G + 1) a ∧ Below G w w2 ∧ G + 1 < w2.heap.size ∧ LaiG G w2) := ⟨J3q HA.out.2.2.2.2.2.2.2.2.1 m2, HA.out.2.2.2.2.2.2.2.2.2.2.trans hlow2, Nat.lt_of_lt_of_le HG1.out m2.size, HA.out.2.2.2.2.2.2.2.2.2.1.low hlow2⟩
    have HF : Hid (d2 = txt rest2 ∧ rest2.length ≤ s.length ∧ J20 s = (ls ++ [l]) ++ J20 rest2) := ⟨f2, f4, by rw [HA.out.2.2.2.1, f5]; simp⟩
    clear C1 hc m2 H2 f1 f2 f3 f4 f5 CA hlow2
    go_wp2_with (fail)
    refine C2.out.mono ?_
    rintro e w3 ⟨y, b, rfl, hline, da⟩
    have Hb3 : Hid (Bld w3 (G + 1) (G + 1) a) := Bld.spar HB2.out.1 da.spar
    have hsz3 : G + 1 ≤ w3.heap.size := by
     rcases Hb3.out with q | q
     ·exact Nat.le_of_lt q.lt
     ·exact Nat.le_of_lt q.lt
    have hshort := hline.short HA.out.2.2.2.2.2.2.1
    have HX : Hid (SLineTo x l y b ∧ DAns (G + 1) G w2 y w3 ∧ b.length ≤ 2000 ∧ Wf y) := ⟨hline, da, hshort, hline.wf HA.out.2.2.2.2.2.2.1⟩
    have C3 := J04 (CWr.out a (b ++ [10]) (txt b) w3 (J3b b [10]) Hb3.out (by have := HA.out.2.2.2.2.2.1; rw [List.length_append]; simp; omega) hsz3)
    obtain ⟨bt, Hbt⟩ : ∃ z, Hid (txt b = z) := ⟨_, rfl⟩
    rw [Hbt.out] at C3 ⊢
    have hbz : bt.size ≤ 2000 := by rw [← Hbt.out, J0h]; exact hshort
    clear C2 hline da hshort CWr hsz3
    go_wp2_with (fail)
    refine C3.out.mono ?_
    rintro e w4 ⟨n4, rfl, h4, b4, o4⟩
    have HN : Hid (∃ (rest : List UInt8) (ls : List (List UInt8)) (x : Sta) (a : List UInt8), d2 = txt rest ∧ rest.length ≤ s.length ∧ ls.length = k + 1 ∧ J20 s = ls ++ J20 rest ∧ PlayTo sta0 ls x a ∧ a.length ≤ 2001 * (k + 1) ∧ Wf x ∧ (∃ rv cv mv, Dp (G + 1) G x rv cv mv w4) ∧ Bld w4 (G + 1) (G + 1) a ∧ LaiG G w4 ∧ Below G w w4) := by
     have hlow : Below G w2 w4 := HX.out.2.1.low.trans (Below.mono b4 (Nat.le_succ G))
     obtain ⟨rv, cv, mv, hp⟩ := HX.out.2.1.ply
     refine ⟨rest2, ls ++ [l], y, a ++ (b ++ [10]), HF.out.1, HF.out.2.1, by rw [List.length_append, HA.out.2.2.1]; rfl, HF.out.2.2, HA.out.2.2.2.2.1.snoc HX.out.1, ?_, HX.out.2.2.2, ⟨rv, cv, mv, hp.keep (Jk7 Hb3.out o4)⟩, h4, HB2.out.2.2.2.low hlow, HB2.out.2.1.trans hlow⟩
     have h1 := HA.out.2.2.2.2.2.1
     have h2 := HX.out.2.2.1
     rw [List.length_append, List.length_append]
     simp
     omega
    clear C3 HX HB2 HF HA h4 b4 o4 Hb3
    go_wp2
    go_roundg g
    case measure => omega
    case rel => exact ⟨k + 1, d2, by omega, rfl, by first | rfl | simp [hk63], HN.out⟩
theorem Jdg : ScriptTo [63] [63, 10] := by
 have hno : ¬ J45 [63] := by unfold J45; decide
 refine ⟨sta0, sta0, [63], [], ⟨[63], [], rfl, .inl ⟨[], ⟨rfl, fun n hn => by simp at hn⟩, Jaa hno ⟨rfl, rfl⟩⟩⟩, ⟨rfl, rfl⟩, rfl⟩
theorem PlayTo.short : ∀ {ls : List (List UInt8)} {x y : Sta} {a : List UInt8}, PlayTo x ls y a → Wf x → a.length ≤ 2001 * ls.length
 | [], _, _, _, h, _ => by rw [h.2]; simp
 | l :: ls, _, _, _, ⟨z, b, c, h1, h2, h3⟩, w => by
  have k1 := h1.short w
  have k2 := h2.short (h1.wf w)
  rw [h3, List.length_append, List.length_cons, List.length_cons]
  omega
theorem ScriptTo.short {s a : List UInt8} (h : ScriptTo s a) : a.length ≤ 100000 := by
 obtain ⟨y, h⟩ := h
 have h1 := h.short wf0
 have h2 : ((J20 s).take 40).length ≤ 40 := by simp; omega
 omega

set_option maxHeartbeats 4000000 in
theorem J9t (a b : List UInt8) (w : World) (hL : LaiD w) (h8 : 8 ≤ w.heap.size) (ha : a.length ≤ 140737488355328) (hb : b.length ≤ 140737488355328) :
  Calls Tryz.prog 4 #[.string (txt a), .string (txt b)] w fun e w' => e = .returned (.bool true) ∧ More w w' := by
 suffices hP : ∀ P : Ending → World → Prop, (∀ w', More w w' → P (.returned (.bool true)) w') → Calls Tryz.prog 4 #[.string (txt a), .string (txt b)] w P from hP _ (fun w' m => ⟨rfl, m⟩)
 intro P hP0
 have HP : Hid (∀ w', More w w' → P (.returned (.bool true)) w') := hP0
 have CP : Hid (∀ (s : List UInt8) (d : ByteArray), d = txt s → s.length < 4611686018427387904 → ∀ w1, More w w1 → Calls Tryz.prog 7 #[.string d] w1 fun e w' => ∃ (r : List UInt8) (d' : ByteArray), e = .returned (.string d') ∧ d' = txt r ∧ ScriptTo s r ∧ More w1 w') := fun s d e hs w1 m => by
  subst e
  refine (Jge s w1 (hL.more m) (Nat.le_trans h8 m.size) hs).mono ?_
  rintro e w' ⟨r, rfl, h, m⟩
  exact ⟨r, _, rfl, rfl, h, m⟩
 have e1 : txt a ++ ⟨#[10]⟩ = txt (a ++ [10]) := J3b a [10]
 have e2 : (txt a ++ ⟨#[10]⟩) ++ txt b = txt (a ++ 10 :: b) := by rw [e1, J3b (a ++ [10]) b]; simp
 have z1 := J0h a
 have z2 := J0h b
 have C1 := J04 (CP.out (a ++ [10]) _ e1 (by simp; omega))
 have C2 := J04 (CP.out (a ++ 10 :: b) _ e2 (by simp; omega))
 have C3 := J04 (CP.out [63] ⟨#[63]⟩ rfl (by decide))
 obtain ⟨sa, Hsa⟩ : ∃ x, Hid (txt a = x) := ⟨_, rfl⟩
 obtain ⟨sb, Hsb⟩ : ∃ x, Hid (txt b = x) := ⟨_, rfl⟩
 rw [Hsa.out] at C1 C2 z1 ⊢
 rw [Hsb.out] at C2 z2 ⊢
 rw [← z1] at ha
 rw [← z2] at hb
 clear hP0 hL h8 CP e1 e2 z1 z2
 go_enter Tryz.func4, Tryz.ntmps4
 go_wp2_with (fail)
 refine (C1.out w (More.refl _)).mono ?_
 rintro e w1 ⟨r1, d1, rfl, f1, s1, m1⟩
 have H1 : Hid (d1 = txt r1 ∧ ScriptTo (a ++ [10]) r1) := ⟨f1, s1⟩
 have Hm1 := J04 m1
 clear C1 f1 s1 m1
 go_wp2_with (fail)
 refine (C2.out w1 Hm1.out).mono ?_
 rintro e w2 ⟨r2, d2, rfl, f2, s2, m2⟩
 have H2 : Hid (d2 = txt r2 ∧ ScriptTo (a ++ 10 :: b) r2) := ⟨f2, s2⟩
 have Hm2 := J04 (Hm1.out.trans m2)
 clear C2 f2 s2 m2
 go_wp2_with (fail)
 refine (C3.out w2 Hm2.out).mono ?_
 rintro e w3 ⟨r3, d3, rfl, f3, s3, m3⟩
 obtain rfl := s3.one Jdg
 have HE := J04 (HP.out w3 (Hm2.out.trans m3))
 obtain rfl : d3 = ⟨#[63, 10]⟩ := f3
 clear C3 s3 m3 HP
 have hz1 : d1.size ≤ 100000 := by rw [H1.out.1, J0h]; exact H1.out.2.short
 have hz2 : d2.size ≤ 100000 := by rw [H2.out.1, J0h]; exact H2.out.2.short
 obtain ⟨c, hc⟩ := H1.out.2.front H2.out.2
 have hle : d1.size ≤ d2.size := by rw [H1.out.1, H2.out.1, J0h, J0h, hc]; simp
 have hlei : (d1.size : Int) ≤ (d2.size : Int) := by omega
 have hex : d2.extract 0 d1.size = d1 := by rw [H1.out.1, H2.out.1, hc, J0h]; exact (J5p r1 c).1
 clear hc
 go_wp2
 exact HE.out
end
end Go.Proofs.YtephohhigbfafaaGreatDoor
