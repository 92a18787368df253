/-
  One step of the machine, Do behind Begin: it is the step that chapter 3 says.
-/
import Derived.Test.YtdlhlhbbhjbkpaaDo
import Derived.Test.YtdlhlhbbhjbkpaaBegin
import Derived.Test.YtdlhlhbbhjbkpaaNewAux
namespace Go.Proofs.Ytdlhlhbbhjbkpaa
open Go.RowKit
set_option linter.unusedVariables false
set_option linter.unusedSimpArgs false

structure Wds (m mm : Mem) (x : Ms) : Prop where
  wd : ∀ c, c < m.ml → ∀ i, i < m.len c → x.wd (baseN m.len c + i) = mm.wd c i
  st : ∀ j, j ≤ m.ml → x.st j = (baseN m.len j : Int)
structure Rel (m : Mem) (fuel : Nat) (x : Ms) (s : St) (k : Nat) : Prop where
  r : x.r = s.r
  w : Wds m s.m x
  next : x.next = (s.at_ : Int)
  fin : x.fin = 0
  val : x.val = 0
  steps : x.steps = (k : Int)
  fuel : x.fuel = (fuel : Int)
  ended : x.ended = false
structure RelEnd (m mm : Mem) (x : Ms) (f v t : Int) : Prop where
  w : Wds m mm x
  fin : x.fin = f
  val : x.val = v
  steps : x.steps = t
  ended : x.ended = true

theorem base_eq (p : Prg) (m : Mem) (hlen : ∀ i, i < m.ml → (m.len i : Int) = wordsI (p.log i)) : ∀ j, j ≤ m.ml → (baseN m.len j : Int) = baseI p.log j
  | 0, _ => rfl
  | j + 1, h => by
    simp only [baseN, baseI]
    rw [← base_eq p m hlen j (by omega), ← hlen j (by omega)]
    push_cast
    rfl
theorem base_inj (len : Nat → Nat) {c c' i i' : Nat} (hi : i < len c) (hi' : i' < len c') (h : baseN len c + i = baseN len c' + i') : c = c' ∧ i = i' := by
  rcases Nat.lt_trichotomy c c' with h1 | h1 | h1
  · have := baseN_mono len (c + 1) c' h1
    simp only [baseN] at this
    omega
  · subst h1; exact ⟨rfl, by omega⟩
  · have := baseN_mono len (c' + 1) c h1
    simp only [baseN] at this
    omega

theorem Wds.set {m mm : Mem} {x : Ms} (h : Wds m mm x) (c i : Nat) (hc : c < m.ml) (hi : i < m.len c) (v : Int) (x' : Ms) (hx : x'.wd = setN x.wd (baseN m.len c + i) v) (hs : x'.st = x.st) : Wds m (setW mm c i v) x' := by
  refine ⟨fun c' hc' i' hi' => ?_, fun j hj => by rw [hs]; exact h.st j hj⟩
  rw [hx]
  unfold setN setW
  dsimp only
  by_cases e : baseN m.len c' + i' = baseN m.len c + i
  · obtain ⟨rfl, rfl⟩ := base_inj m.len hi' hi e
    rw [if_pos rfl, if_pos ⟨rfl, rfl⟩]
  · rw [if_neg e, if_neg (fun h => e (by rw [h.1, h.2]))]
    exact h.wd c' hc' i' hi'

/-- What a step comes to, in the machine. -/
def After (m : Mem) (fuel : Nat) (x' : Ms) (k : Nat) (q : St × Option (Int × Int)) : Prop :=
  match q.2 with
  | none => Rel m fuel x' q.1 k
  | some e => RelEnd m q.1.m x' e.1 e.2 (k : Int)

set_option maxHeartbeats 1000000 in
theorem seq_do (p : Prg) (m : Mem) (fuel : Nat) (s : St) (k : Nat) (x : Ms) (w : World) (M : Nat) (rv cv : Value) (hin : InsOk p.rl p.log p.cl 10 (p.ins s.at_)) (hrl : m.ml = p.rl) (hml : m.ml ≤ 6) (hlen : ∀ i, i < m.ml → (m.len i : Int) = wordsI (p.log i)) (hpos : ∀ i, i < m.ml → 0 < m.len i ∧ m.len i ≤ 64)
    (hs2 : ∀ j, s.m.len j = m.len j) (hl : s.seen.length ≤ 100000) (hR : Rel m fuel x ⟨s.at_ + 1, s.r, s.m, s.seen ++ [⟨1, s.at_, 0⟩]⟩ k) (h : Run w M rv cv x (s.seen ++ [⟨1, s.at_, 0⟩])) :
    Calls Try.prog 40 #[.pointer (some ⟨M, 0, none⟩), .agg #[.int .i64 (p.ins s.at_).op, .int .i64 (p.ins s.at_).a, .int .i64 (p.ins s.at_).b, .int .i64 (p.ins s.at_).c, .int .i64 (p.ins s.at_).n]] w fun e w' =>
      e = .returned (.tuple #[]) ∧ Below M w w' ∧ ∃ x', Run w' M rv cv x' (stepI p s).1.seen ∧ After m fuel x' k (stepI p s) := by
  have hl' : (s.seen ++ [(⟨1, s.at_, 0⟩ : Se)]).length ≤ 200000 := by simp; omega
  have ok : ∀ {x2 : Ms} {se2 : List Se}, (stepI p s).1.seen = se2 → After m fuel x2 k (stepI p s) → ∀ (e : Ending) (w' : World), (e = .returned (.tuple #[]) ∧ Run w' M rv cv x2 se2 ∧ Below M w w') → e = .returned (.tuple #[]) ∧ Below M w w' ∧ ∃ x', Run w' M rv cv x' (stepI p s).1.seen ∧ After m fuel x' k (stepI p s) := by
    rintro x2 se2 hse ha e w' ⟨rfl, r2, b2⟩
    exact ⟨rfl, b2, x2, by rw [hse]; exact r2, ha⟩
  have hr := hR.r
  dsimp only at hr
  cases hI : p.ins s.at_ with
  | mk op a b c n =>
  rw [hI] at hin
  dsimp only
  -- the four that take or put a word
  have word : ∀ (hop : op = 3 ∨ op = 4 ∨ op = 5 ∨ op = 6), 0 ≤ a ∧ a < 10 ∧ 0 ≤ b ∧ b < 10 ∧ 0 ≤ c ∧ c < p.rl := by
    intro hop
    unfold InsOk Reg Rgn at hin
    dsimp only at hin
    rcases hop with rfl | rfl | rfl | rfl <;> simp at hin <;> omega
  have bse : ∀ (hop : op = 3 ∨ op = 4 ∨ op = 5 ∨ op = 6), x.st c.toNat = (baseN m.len c.toNat : Int) ∧ x.st (c.toNat + 1) = (baseN m.len c.toNat : Int) + (m.len c.toNat : Int) ∧ baseN m.len c.toNat + m.len c.toNat ≤ 384 ∧ c.toNat < m.ml ∧ c < 6 := by
    intro hop
    have := word hop
    have hc : c.toNat < m.ml := by omega
    have h1 := hR.w.st c.toNat (by omega)
    have h2 := hR.w.st (c.toNat + 1) (by omega)
    have h3 := baseN_le m.len (c.toNat + 1) (fun j hj => (hpos j (by omega)).2)
    simp only [baseN] at h2 h3
    refine ⟨h1, by rw [h2]; push_cast; rfl, by omega, hc, by omega⟩
  by_cases h1 : op = 1
  · subst h1
    have ha : 0 ≤ a ∧ a < 10 := by unfold InsOk Reg at hin; simp at hin; exact hin.1
    have e : stepI p s = (⟨s.at_ + 1, setR s.r a n, s.m, s.seen ++ [⟨1, s.at_, 0⟩]⟩, none) := by simp [stepI, hI, putI, regsI]
    exact (do_1 a b c n w M rv cv x _ h ha.1 ha.2).mono (ok (by rw [e]) (by rw [e]; exact ⟨by rw [hr], ⟨hR.w.wd, hR.w.st⟩, hR.next, hR.fin, hR.val, hR.steps, hR.fuel, hR.ended⟩))
  by_cases h2 : op = 2
  · subst h2
    have ha : (0 ≤ a ∧ a < 10) ∧ (0 ≤ b ∧ b < 10) := by unfold InsOk Reg at hin; simp at hin; exact ⟨hin.1, hin.2.1⟩
    have e : stepI p s = (⟨s.at_ + 1, setR s.r a (s.r b.toNat), s.m, s.seen ++ [⟨1, s.at_, 0⟩]⟩, none) := by simp [stepI, hI, putI, regsI]
    exact (do_2 a b c n w M rv cv x _ h ha.1.1 ha.1.2 ha.2.1 ha.2.2).mono (ok (by rw [e]) (by rw [e]; exact ⟨by rw [hr], ⟨hR.w.wd, hR.w.st⟩, hR.next, hR.fin, hR.val, hR.steps, hR.fuel, hR.ended⟩))
  by_cases h10 : op = 10
  · subst h10
    have ha : (0 ≤ a ∧ a < 10) ∧ (0 ≤ b ∧ b < 10) := by unfold InsOk Reg at hin; simp at hin; exact ⟨hin.1, hin.2.1⟩
    have e : stepI p s = (⟨s.at_ + 1, setR s.r a (wrap64 (s.r b.toNat + n)), s.m, s.seen ++ [⟨1, s.at_, 0⟩]⟩, none) := by simp [stepI, hI, putI, regsI]
    exact (do_10 a b c n w M rv cv x _ h ha.1.1 ha.1.2 ha.2.1 ha.2.2).mono (ok (by rw [e]) (by rw [e]; exact ⟨by rw [hr], ⟨hR.w.wd, hR.w.st⟩, hR.next, hR.fin, hR.val, hR.steps, hR.fuel, hR.ended⟩))
  by_cases h12 : op = 12
  · subst h12
    have ha : a = 0 := by unfold InsOk at hin; simp at hin; exact hin.1
    have e : stepI p s = (⟨s.at_ + 1, s.r, s.m, s.seen ++ [⟨1, s.at_, 0⟩]⟩, none) := by simp [stepI, hI, putI, regsI]
    exact (do_12 a b c n w M rv cv x _ h (by omega) (by omega)).mono (ok (by rw [e]) (by rw [e]; exact ⟨hr, ⟨hR.w.wd, hR.w.st⟩, hR.next, hR.fin, hR.val, hR.steps, hR.fuel, hR.ended⟩))
  by_cases h7 : op = 7
  · subst h7
    have ha : a = 0 ∧ 0 ≤ n := by unfold InsOk Plc at hin; simp at hin; exact ⟨hin.1, hin.2.2.2.1⟩
    have e : stepI p s = (⟨n.toNat, s.r, s.m, s.seen ++ [⟨1, s.at_, 0⟩]⟩, none) := by simp [stepI, hI]
    exact (do_7 a b c n w M rv cv x _ h (by omega) (by omega)).mono (ok (by rw [e]) (by rw [e]; exact ⟨hr, ⟨hR.w.wd, hR.w.st⟩, (show n = ((n.toNat : Nat) : Int) by omega), hR.fin, hR.val, hR.steps, hR.fuel, hR.ended⟩))
  by_cases h8 : op = 8
  · subst h8
    have ha : (0 ≤ a ∧ a < 10) ∧ (0 ≤ b ∧ b < 10) ∧ 0 ≤ n := by unfold InsOk Reg Plc at hin; simp at hin; exact ⟨hin.1, hin.2.1, hin.2.2.2.1⟩
    cases hh : holdsI c (s.r a.toNat) (s.r b.toNat) with
    | true =>
      have e : stepI p s = (⟨n.toNat, s.r, s.m, s.seen ++ [⟨1, s.at_, 0⟩]⟩, none) := by simp [stepI, hI, hh]
      exact (do_8y a b c n w M rv cv x _ h ha.1.1 ha.1.2 ha.2.1.1 ha.2.1.2 (by rw [hr]; exact hh)).mono (ok (by rw [e]) (by rw [e]; exact ⟨hr, ⟨hR.w.wd, hR.w.st⟩, (show n = ((n.toNat : Nat) : Int) by omega), hR.fin, hR.val, hR.steps, hR.fuel, hR.ended⟩))
    | false =>
      have e : stepI p s = (⟨s.at_ + 1, s.r, s.m, s.seen ++ [⟨1, s.at_, 0⟩]⟩, none) := by simp [stepI, hI, hh]
      exact (do_8n a b c n w M rv cv x _ h ha.1.1 ha.1.2 ha.2.1.1 ha.2.1.2 (by rw [hr]; exact hh)).mono (ok (by rw [e]) (by rw [e]; exact ⟨hr, ⟨hR.w.wd, hR.w.st⟩, hR.next, hR.fin, hR.val, hR.steps, hR.fuel, hR.ended⟩))
  by_cases h9 : op = 9
  · subst h9
    have ha : 0 ≤ a ∧ a < 10 := by unfold InsOk Reg at hin; simp at hin; exact hin.1
    have e : stepI p s = (⟨s.at_ + 1, s.r, s.m, s.seen ++ [⟨1, s.at_, 0⟩]⟩, some (1, s.r a.toNat)) := by simp [stepI, hI]
    exact (do_9 a b c n w M rv cv x _ h ha.1 ha.2).mono (ok (by rw [e]) (by rw [e]; exact ⟨⟨hR.w.wd, hR.w.st⟩, rfl, by rw [hr], hR.steps, rfl⟩))
  by_cases h11 : op = 11
  · subst h11
    have ha : 0 ≤ a ∧ a < 10 := by unfold InsOk Reg at hin; simp at hin; exact hin.1
    by_cases lo : s.r a.toNat < 0
    · have e : stepI p s = (⟨s.at_ + 1, setR s.r a 0, s.m, s.seen ++ [⟨1, s.at_, 0⟩]⟩, none) := by simp [stepI, hI, putI, regsI, lo]
      exact (do_11lo a b c n _ w M rv cv x _ h ha.1 ha.2 rfl (by rw [hr]; exact lo)).mono (ok (by rw [e]) (by rw [e]; exact ⟨by rw [hr], ⟨hR.w.wd, hR.w.st⟩, hR.next, hR.fin, hR.val, hR.steps, hR.fuel, hR.ended⟩))
    · by_cases hi : n ≤ s.r a.toNat
      · have e : stepI p s = (⟨s.at_ + 1, setR s.r a 0, s.m, s.seen ++ [⟨1, s.at_, 0⟩]⟩, none) := by simp [stepI, hI, putI, regsI, hi]
        exact (do_11hi a b c n _ w M rv cv x _ h ha.1 ha.2 rfl (by rw [hr]; exact lo) (by rw [hr]; exact hi)).mono (ok (by rw [e]) (by rw [e]; exact ⟨by rw [hr], ⟨hR.w.wd, hR.w.st⟩, hR.next, hR.fin, hR.val, hR.steps, hR.fuel, hR.ended⟩))
      · have e : stepI p s = (⟨s.at_ + 1, s.r, s.m, s.seen ++ [⟨1, s.at_, 0⟩]⟩, none) := by simp [stepI, hI, putI, regsI, lo, hi]
        exact (do_11in a b c n _ w M rv cv x _ h ha.1 ha.2 rfl (by rw [hr]; exact lo) (by rw [hr]; omega)).mono (ok (by rw [e]) (by rw [e]; exact ⟨hr, ⟨hR.w.wd, hR.w.st⟩, hR.next, hR.fin, hR.val, hR.steps, hR.fuel, hR.ended⟩))
  by_cases h3 : op = 3
  · subst h3
    have hw := word (by omega)
    have hbs := bse (by omega)
    have hb3 := base_eq p m hlen c.toNat (by omega)
    have hli := hs2 c.toNat
    by_cases hx : 0 ≤ idxI s.r ⟨3, a, b, c, n⟩ ∧ idxI s.r ⟨3, a, b, c, n⟩ < (m.len c.toNat : Int)
    · have e : stepI p s = (⟨s.at_ + 1, setR s.r a (s.m.wd c.toNat (idxI s.r ⟨3, a, b, c, n⟩).toNat), s.m, s.seen ++ [⟨1, s.at_, 0⟩] ++ [⟨2, baseI p.log c.toNat + idxI s.r ⟨3, a, b, c, n⟩, 0⟩]⟩, none) := by
        have g1 : ¬ (idxI s.r ⟨3, a, b, c, n⟩ < 0 ∨ (s.m.len c.toNat : Int) ≤ idxI s.r ⟨3, a, b, c, n⟩) := by rw [hli]; omega
        unfold stepI
        rw [hI]
        dsimp only
        rw [if_neg (by decide), if_neg (by decide), if_neg (by decide), if_pos (by simp [putI]), if_neg g1]
        simp [putI]
      have hk2 : ((baseN m.len c.toNat : Int) + idxI s.r ⟨3, a, b, c, n⟩).toNat = baseN m.len c.toNat + (idxI s.r ⟨3, a, b, c, n⟩).toNat := by omega
      have hse : x.st c.toNat + idxI x.r ⟨3, a, b, c, n⟩ = (baseN m.len c.toNat : Int) + idxI s.r ⟨3, a, b, c, n⟩ := by rw [hbs.1, hr]
      refine (do_3_there a b c n ((baseN m.len c.toNat : Int) + idxI s.r ⟨3, a, b, c, n⟩) w M rv cv x _ h hw.1 hw.2.1 _ (by omega) (by omega) (fun w1 m1 => ?_)).mono (ok (se2 := s.seen ++ [⟨1, s.at_, 0⟩] ++ [⟨2, (baseN m.len c.toNat : Int) + idxI s.r ⟨3, a, b, c, n⟩, 0⟩]) (by rw [e, hb3]) (by rw [e]; exact ⟨by rw [hr, hk2]; exact congrArg (setR s.r a) (hR.w.wd c.toNat hbs.2.2.2.1 _ (by omega)), ⟨hR.w.wd, hR.w.st⟩, hR.next, hR.fin, hR.val, hR.steps, hR.fuel, hR.ended⟩))
      have hq := seq_reach_there ⟨3, a, b, c, n⟩ 0 w1 M rv cv x _ (h.more m1) hl' (by simp) hw.2.2.1 hw.2.2.2.1 hw.2.2.2.2.1 hbs.2.2.2.2 (by dsimp only; omega) (by dsimp only; omega) (by dsimp only; omega) (by dsimp only; rw [hr, hbs.1, hbs.2.1]; omega)
      dsimp only at hq
      rw [hse] at hq
      exact hq
    · have e : stepI p s = (⟨s.at_ + 1, s.r, s.m, s.seen ++ [⟨1, s.at_, 0⟩]⟩, some (2, 0)) := by
        have g1 : idxI s.r ⟨3, a, b, c, n⟩ < 0 ∨ (s.m.len c.toNat : Int) ≤ idxI s.r ⟨3, a, b, c, n⟩ := by rw [hli]; omega
        unfold stepI
        rw [hI]
        dsimp only
        rw [if_neg (by decide), if_neg (by decide), if_neg (by decide), if_pos (by simp [putI]), if_pos g1]
      refine (do_3_not a b c n w M rv cv x _ h hw.1 hw.2.1 { x with fin := 2, ended := true } (fun w1 m1 => ?_)).mono (ok (by rw [e]) (by rw [e]; exact ⟨⟨hR.w.wd, hR.w.st⟩, rfl, hR.val, hR.steps, rfl⟩))
      exact seq_reach_not ⟨3, a, b, c, n⟩ 0 w1 M rv cv x _ (h.more m1) (by simp) hw.2.2.1 hw.2.2.2.1 hw.2.2.2.2.1 hbs.2.2.2.2 (by dsimp only; omega) (by dsimp only; omega) (by dsimp only; omega) (by dsimp only; rw [hr, hbs.1, hbs.2.1]; omega)
  by_cases h5 : op = 5
  · subst h5
    have hw := word (by omega)
    have hbs := bse (by omega)
    have hb3 := base_eq p m hlen c.toNat (by omega)
    have hli := hs2 c.toNat
    by_cases hx : 0 ≤ idxI s.r ⟨5, a, b, c, n⟩ ∧ idxI s.r ⟨5, a, b, c, n⟩ < (m.len c.toNat : Int)
    · have e : stepI p s = (⟨s.at_ + 1, setR s.r a (s.m.wd c.toNat (idxI s.r ⟨5, a, b, c, n⟩).toNat), s.m, s.seen ++ [⟨1, s.at_, 0⟩] ++ [⟨2, baseI p.log c.toNat + idxI s.r ⟨5, a, b, c, n⟩, 0⟩]⟩, none) := by
        have g1 : ¬ (idxI s.r ⟨5, a, b, c, n⟩ < 0 ∨ (s.m.len c.toNat : Int) ≤ idxI s.r ⟨5, a, b, c, n⟩) := by rw [hli]; omega
        unfold stepI
        rw [hI]
        dsimp only
        rw [if_neg (by decide), if_neg (by decide), if_neg (by decide), if_pos (by simp [putI]), if_neg g1]
        simp [putI]
      have hk2 : ((baseN m.len c.toNat : Int) + idxI s.r ⟨5, a, b, c, n⟩).toNat = baseN m.len c.toNat + (idxI s.r ⟨5, a, b, c, n⟩).toNat := by omega
      have hse : x.st c.toNat + idxI x.r ⟨5, a, b, c, n⟩ = (baseN m.len c.toNat : Int) + idxI s.r ⟨5, a, b, c, n⟩ := by rw [hbs.1, hr]
      refine (do_5_there a b c n ((baseN m.len c.toNat : Int) + idxI s.r ⟨5, a, b, c, n⟩) w M rv cv x _ h hw.1 hw.2.1 _ (by omega) (by omega) (fun w1 m1 => ?_)).mono (ok (se2 := s.seen ++ [⟨1, s.at_, 0⟩] ++ [⟨2, (baseN m.len c.toNat : Int) + idxI s.r ⟨5, a, b, c, n⟩, 0⟩]) (by rw [e, hb3]) (by rw [e]; exact ⟨by rw [hr, hk2]; exact congrArg (setR s.r a) (hR.w.wd c.toNat hbs.2.2.2.1 _ (by omega)), ⟨hR.w.wd, hR.w.st⟩, hR.next, hR.fin, hR.val, hR.steps, hR.fuel, hR.ended⟩))
      have hq := seq_reach_there ⟨5, a, b, c, n⟩ 0 w1 M rv cv x _ (h.more m1) hl' (by simp) hw.2.2.1 hw.2.2.2.1 hw.2.2.2.2.1 hbs.2.2.2.2 (by dsimp only; omega) (by dsimp only; omega) (by dsimp only; omega) (by dsimp only; rw [hr, hbs.1, hbs.2.1]; omega)
      dsimp only at hq
      rw [hse] at hq
      exact hq
    · have e : stepI p s = (⟨s.at_ + 1, s.r, s.m, s.seen ++ [⟨1, s.at_, 0⟩]⟩, some (2, 0)) := by
        have g1 : idxI s.r ⟨5, a, b, c, n⟩ < 0 ∨ (s.m.len c.toNat : Int) ≤ idxI s.r ⟨5, a, b, c, n⟩ := by rw [hli]; omega
        unfold stepI
        rw [hI]
        dsimp only
        rw [if_neg (by decide), if_neg (by decide), if_neg (by decide), if_pos (by simp [putI]), if_pos g1]
      refine (do_5_not a b c n w M rv cv x _ h hw.1 hw.2.1 { x with fin := 2, ended := true } (fun w1 m1 => ?_)).mono (ok (by rw [e]) (by rw [e]; exact ⟨⟨hR.w.wd, hR.w.st⟩, rfl, hR.val, hR.steps, rfl⟩))
      exact seq_reach_not ⟨5, a, b, c, n⟩ 0 w1 M rv cv x _ (h.more m1) (by simp) hw.2.2.1 hw.2.2.2.1 hw.2.2.2.2.1 hbs.2.2.2.2 (by dsimp only; omega) (by dsimp only; omega) (by dsimp only; omega) (by dsimp only; rw [hr, hbs.1, hbs.2.1]; omega)
  by_cases h4 : op = 4
  · subst h4
    have hw := word (by omega)
    have hbs := bse (by omega)
    have hb3 := base_eq p m hlen c.toNat (by omega)
    have hli := hs2 c.toNat
    by_cases hx : 0 ≤ idxI s.r ⟨4, a, b, c, n⟩ ∧ idxI s.r ⟨4, a, b, c, n⟩ < (m.len c.toNat : Int)
    · have e : stepI p s = (⟨s.at_ + 1, s.r, setW s.m c.toNat (idxI s.r ⟨4, a, b, c, n⟩).toNat (s.r a.toNat), s.seen ++ [⟨1, s.at_, 0⟩] ++ [⟨2, baseI p.log c.toNat + idxI s.r ⟨4, a, b, c, n⟩, 1⟩]⟩, none) := by
        have g1 : ¬ (idxI s.r ⟨4, a, b, c, n⟩ < 0 ∨ (s.m.len c.toNat : Int) ≤ idxI s.r ⟨4, a, b, c, n⟩) := by rw [hli]; omega
        unfold stepI
        rw [hI]
        dsimp only
        rw [if_neg (by decide), if_neg (by decide), if_neg (by decide), if_pos (by simp [putI]), if_neg g1]
        simp [putI]
      have hk2 : ((baseN m.len c.toNat : Int) + idxI s.r ⟨4, a, b, c, n⟩).toNat = baseN m.len c.toNat + (idxI s.r ⟨4, a, b, c, n⟩).toNat := by omega
      have hse : x.st c.toNat + idxI x.r ⟨4, a, b, c, n⟩ = (baseN m.len c.toNat : Int) + idxI s.r ⟨4, a, b, c, n⟩ := by rw [hbs.1, hr]
      refine (do_4_there a b c n ((baseN m.len c.toNat : Int) + idxI s.r ⟨4, a, b, c, n⟩) w M rv cv x _ h hw.1 hw.2.1 _ (by omega) (by omega) (fun w1 m1 => ?_)).mono (ok (se2 := s.seen ++ [⟨1, s.at_, 0⟩] ++ [⟨2, (baseN m.len c.toNat : Int) + idxI s.r ⟨4, a, b, c, n⟩, 1⟩]) (by rw [e, hb3]) (by rw [e]; exact ⟨hr, hR.w.set c.toNat (idxI s.r ⟨4, a, b, c, n⟩).toNat hbs.2.2.2.1 (by omega) (s.r a.toNat) _ (by rw [hk2, hr]) rfl, hR.next, hR.fin, hR.val, hR.steps, hR.fuel, hR.ended⟩))
      have hq := seq_reach_there ⟨4, a, b, c, n⟩ 1 w1 M rv cv x _ (h.more m1) hl' (by simp) hw.2.2.1 hw.2.2.2.1 hw.2.2.2.2.1 hbs.2.2.2.2 (by dsimp only; omega) (by dsimp only; omega) (by dsimp only; omega) (by dsimp only; rw [hr, hbs.1, hbs.2.1]; omega)
      dsimp only at hq
      rw [hse] at hq
      exact hq
    · have e : stepI p s = (⟨s.at_ + 1, s.r, s.m, s.seen ++ [⟨1, s.at_, 0⟩]⟩, some (2, 0)) := by
        have g1 : idxI s.r ⟨4, a, b, c, n⟩ < 0 ∨ (s.m.len c.toNat : Int) ≤ idxI s.r ⟨4, a, b, c, n⟩ := by rw [hli]; omega
        unfold stepI
        rw [hI]
        dsimp only
        rw [if_neg (by decide), if_neg (by decide), if_neg (by decide), if_pos (by simp [putI]), if_pos g1]
      refine (do_4_not a b c n w M rv cv x _ h hw.1 hw.2.1 { x with fin := 2, ended := true } (fun w1 m1 => ?_)).mono (ok (by rw [e]) (by rw [e]; exact ⟨⟨hR.w.wd, hR.w.st⟩, rfl, hR.val, hR.steps, rfl⟩))
      exact seq_reach_not ⟨4, a, b, c, n⟩ 1 w1 M rv cv x _ (h.more m1) (by simp) hw.2.2.1 hw.2.2.2.1 hw.2.2.2.2.1 hbs.2.2.2.2 (by dsimp only; omega) (by dsimp only; omega) (by dsimp only; omega) (by dsimp only; rw [hr, hbs.1, hbs.2.1]; omega)
  by_cases h6 : op = 6
  · subst h6
    have hw := word (by omega)
    have hbs := bse (by omega)
    have hb3 := base_eq p m hlen c.toNat (by omega)
    have hli := hs2 c.toNat
    by_cases hx : 0 ≤ idxI s.r ⟨6, a, b, c, n⟩ ∧ idxI s.r ⟨6, a, b, c, n⟩ < (m.len c.toNat : Int)
    · have e : stepI p s = (⟨s.at_ + 1, s.r, setW s.m c.toNat (idxI s.r ⟨6, a, b, c, n⟩).toNat (s.r a.toNat), s.seen ++ [⟨1, s.at_, 0⟩] ++ [⟨2, baseI p.log c.toNat + idxI s.r ⟨6, a, b, c, n⟩, 1⟩]⟩, none) := by
        have g1 : ¬ (idxI s.r ⟨6, a, b, c, n⟩ < 0 ∨ (s.m.len c.toNat : Int) ≤ idxI s.r ⟨6, a, b, c, n⟩) := by rw [hli]; omega
        unfold stepI
        rw [hI]
        dsimp only
        rw [if_neg (by decide), if_neg (by decide), if_neg (by decide), if_pos (by simp [putI]), if_neg g1]
        simp [putI]
      have hk2 : ((baseN m.len c.toNat : Int) + idxI s.r ⟨6, a, b, c, n⟩).toNat = baseN m.len c.toNat + (idxI s.r ⟨6, a, b, c, n⟩).toNat := by omega
      have hse : x.st c.toNat + idxI x.r ⟨6, a, b, c, n⟩ = (baseN m.len c.toNat : Int) + idxI s.r ⟨6, a, b, c, n⟩ := by rw [hbs.1, hr]
      refine (do_6_there a b c n ((baseN m.len c.toNat : Int) + idxI s.r ⟨6, a, b, c, n⟩) w M rv cv x _ h hw.1 hw.2.1 _ (by omega) (by omega) (fun w1 m1 => ?_)).mono (ok (se2 := s.seen ++ [⟨1, s.at_, 0⟩] ++ [⟨2, (baseN m.len c.toNat : Int) + idxI s.r ⟨6, a, b, c, n⟩, 1⟩]) (by rw [e, hb3]) (by rw [e]; exact ⟨hr, hR.w.set c.toNat (idxI s.r ⟨6, a, b, c, n⟩).toNat hbs.2.2.2.1 (by omega) (s.r a.toNat) _ (by rw [hk2, hr]) rfl, hR.next, hR.fin, hR.val, hR.steps, hR.fuel, hR.ended⟩))
      have hq := seq_reach_there ⟨6, a, b, c, n⟩ 1 w1 M rv cv x _ (h.more m1) hl' (by simp) hw.2.2.1 hw.2.2.2.1 hw.2.2.2.2.1 hbs.2.2.2.2 (by dsimp only; omega) (by dsimp only; omega) (by dsimp only; omega) (by dsimp only; rw [hr, hbs.1, hbs.2.1]; omega)
      dsimp only at hq
      rw [hse] at hq
      exact hq
    · have e : stepI p s = (⟨s.at_ + 1, s.r, s.m, s.seen ++ [⟨1, s.at_, 0⟩]⟩, some (2, 0)) := by
        have g1 : idxI s.r ⟨6, a, b, c, n⟩ < 0 ∨ (s.m.len c.toNat : Int) ≤ idxI s.r ⟨6, a, b, c, n⟩ := by rw [hli]; omega
        unfold stepI
        rw [hI]
        dsimp only
        rw [if_neg (by decide), if_neg (by decide), if_neg (by decide), if_pos (by simp [putI]), if_pos g1]
      refine (do_6_not a b c n w M rv cv x _ h hw.1 hw.2.1 { x with fin := 2, ended := true } (fun w1 m1 => ?_)).mono (ok (by rw [e]) (by rw [e]; exact ⟨⟨hR.w.wd, hR.w.st⟩, rfl, hR.val, hR.steps, rfl⟩))
      exact seq_reach_not ⟨6, a, b, c, n⟩ 1 w1 M rv cv x _ (h.more m1) (by simp) hw.2.2.1 hw.2.2.2.1 hw.2.2.2.2.1 hbs.2.2.2.2 (by dsimp only; omega) (by dsimp only; omega) (by dsimp only; omega) (by dsimp only; rw [hr, hbs.1, hbs.2.1]; omega)
  have ho : (21 ≤ op ∧ op ≤ 30) ∧ (0 ≤ a ∧ a < 10) ∧ (0 ≤ b ∧ b < 10) ∧ (0 ≤ c ∧ c < 10) := by
    unfold InsOk Reg at hin
    dsimp only at hin
    rw [if_neg h1, if_neg h2, if_neg h3, if_neg h4, if_neg h5, if_neg h6, if_neg h7, if_neg h8, if_neg h9, if_neg h10, if_neg h11, if_neg h12] at hin
    exact ⟨hin.1, hin.2.1, hin.2.2.1, hin.2.2.2.1⟩
  have hput : putI ⟨op, a, b, c, n⟩ = -1 := by unfold putI; dsimp only; rw [if_neg (by omega), if_neg (by omega)]
  have e0 : stepI p s = (⟨s.at_ + 1, (regsI s.r ⟨op, a, b, c, n⟩).1, s.m, s.seen ++ [⟨1, s.at_, 0⟩] ++ (regsI s.r ⟨op, a, b, c, n⟩).2⟩, none) := by
    unfold stepI
    rw [hI]
    dsimp only
    rw [if_neg h7, if_neg h8, if_neg h9, hput, if_neg (by decide)]
  have er : regsI s.r ⟨op, a, b, c, n⟩ = (setR s.r a (opI (op - 20) (s.r b.toNat) (s.r c.toNat)), if op = 29 ∨ op = 30 then [⟨3, s.r b.toNat, s.r c.toNat⟩] else []) := by
    unfold regsI
    dsimp only
    rw [if_neg h1, if_neg h2, if_neg h10, if_neg h11, if_neg h12]
  rw [er] at e0
  have haf : After m fuel { x with r := setR x.r a (opI (op - 20) (x.r b.toNat) (x.r c.toNat)) } k (stepI p s) := by
    rw [e0]
    exact ⟨by dsimp only; rw [hr], ⟨hR.w.wd, hR.w.st⟩, hR.next, hR.fin, hR.val, hR.steps, hR.fuel, hR.ended⟩
  by_cases h29 : op = 29
  · subst h29
    refine (do_op 29 a b c n w M rv cv x _ h ho.2.1.1 ho.2.1.2 _ _ (by omega) (fun w1 m1 => seq_operate_29 a b c n w1 M rv cv x _ (h.more m1) hl' ho.2.1.1 ho.2.1.2 ho.2.2.1.1 ho.2.2.1.2 ho.2.2.2.1 ho.2.2.2.2)).mono (ok (by rw [e0, hr]; simp) haf)
  by_cases h30 : op = 30
  · subst h30
    refine (do_op 30 a b c n w M rv cv x _ h ho.2.1.1 ho.2.1.2 _ _ (by omega) (fun w1 m1 => seq_operate_30 a b c n w1 M rv cv x _ (h.more m1) hl' ho.2.1.1 ho.2.1.2 ho.2.2.1.1 ho.2.2.1.2 ho.2.2.2.1 ho.2.2.2.2)).mono (ok (by rw [e0, hr]; simp) haf)
  refine (do_op op a b c n w M rv cv x _ h ho.2.1.1 ho.2.1.2 _ _ ho.1.1 (fun w1 m1 => seq_operate_no op a b c n w1 M rv cv x _ (h.more m1) ho.1.1 ho.1.2 h29 h30 ho.2.1.1 ho.2.1.2 ho.2.2.1.1 ho.2.2.1.2 ho.2.2.2.1 ho.2.2.2.2)).mono (ok (by rw [e0]; simp [h29, h30]) haf)
end Go.Proofs.Ytdlhlhbbhjbkpaa
