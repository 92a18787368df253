/-
  A statement whose order of evaluation is left open: one walk, in an order that is named, serves every order: what only reads is taken first; what calls or makes memory is met when nothing else can come up. No Go text in sight.
-/
import Derived.Deep.RegionHeld3
import Derived.WalkKit
namespace Go.Proofs.Ytifdalddchmlmaa
open Go

section
variable {P : Program} {ops : Array Oper} {Q : Exit → Act → World → Prop} {md : Region.Mode} {S : World → Prop}

/-- The named order: an operation's number, and whether it is taken first (true) or is the only one that may come up (false). -/
def ordB (md : Region.Mode) (ops : Array Oper) : List (Nat × Bool) → Array Bool → Bool
  | [], listed => (Region.ready md ops listed).isEmpty
  | (i, t) :: rest, listed =>
    (ops[i]?).isSome && (if t then Region.free md ops listed i && (Region.ready md ops listed).contains i else Region.ready md ops listed == [i]) &&
      ordB md ops rest (listed.setIfInBounds i true)

/-- An operation that reads alone: one value in every world that meets S. -/
def OrdTake (P : Program) (ops : Array Oper) (S : World → Prop) (o : Oper) (a : Act) (w : World) (K : Act → World → Prop) : Prop :=
  if Region.wanted o (yielded ops a.tmps) = true then ∃ v, (∀ i : { w' // S w' }, (execOp a.eval o).run P i.val = .ok (.value v) i.val) ∧ K (a.put o.dst v) w
  else K (a.put o.dst undef) w

/-- One that calls or makes memory: behind it S holds anew. -/
def OrdBusy (P : Program) (ops : Array Oper) (Q : Exit → Act → World → Prop) (o : Oper) (a : Act) (w : World) (K : Act → World → Prop) : Prop :=
  if Region.wanted o (yielded ops a.tmps) = true then Oper.wp P o a w K Q else K (a.put o.dst undef) w

def wpOrd (P : Program) (ops : Array Oper) (Q : Exit → Act → World → Prop) (S : World → Prop) : List (Nat × Bool) → Act → World → Prop
  | [], a, w => Q .normal a w
  | (i, t) :: rest, a, w =>
    match ops[i]? with
    | none => False
    | some o => if t then OrdTake P ops S o a w (fun a' w' => wpOrd P ops Q S rest a' w') else OrdBusy P ops Q o a w (fun a' w' => S w' ∧ wpOrd P ops Q S rest a' w')

theorem wpOrd_held (hs : Region.noSelect ops = true) (hQ : ∀ c (a : Act) d v w, Q (.panic c) (a.put d v) w → Q (.panic c) a w) :
    ∀ (l : List (Nat × Bool)) (listed : Array Bool) (a : Act) (w : World), ordB md ops l listed = true → S w → wpOrd P ops Q S l a w → wpAnyH P md ops Q S l.length listed a w
  | [], listed, a, w, hB, _, h => ⟨by simpa [ordB] using hB, h⟩
  | (i, t) :: rest, listed, a, w, hB, hS, h => by
    simp only [ordB, Bool.and_eq_true] at hB
    obtain ⟨⟨ho, hc⟩, hB'⟩ := hB
    obtain ⟨o, ho⟩ := Option.isSome_iff_exists.1 ho
    simp only [wpOrd, ho] at h
    cases t with
    | true =>
      simp only [if_true, Bool.and_eq_true] at hc h
      unfold OrdTake at h
      by_cases hw : Region.wanted o (yielded ops a.tmps) = true
      · rw [if_pos hw] at h
        obtain ⟨v, hv, hk⟩ := h
        exact wpAnyH_take ho hs hc.1 hc.2 (fun c a w => hQ c a _ _ w) (.inl ⟨hw, fun w' hw' => hv ⟨w', hw'⟩⟩) hS (wpOrd_held hs hQ rest _ _ _ hB' hS hk)
      · rw [if_neg hw] at h
        exact wpAnyH_take ho hs hc.1 hc.2 (fun c a w => hQ c a _ _ w) (.inr ⟨by simpa using hw, rfl⟩) hS (wpOrd_held hs hQ rest _ _ _ hB' hS h)
    | false =>
      simp only [Bool.false_eq_true, if_false, beq_iff_eq] at hc h
      refine wpAnyH_all hc (by simp) (fun j hj => ?_)
      obtain rfl : j = i := by simpa using hj
      unfold OrdBusy at h
      unfold wpOp
      rw [ho]
      show if Region.wanted o (yielded ops a.tmps) = true then _ else _
      by_cases hw : Region.wanted o (yielded ops a.tmps) = true
      · rw [if_pos hw] at h ⊢
        exact .inl (Oper.wp_mono (fun a' w' h' => ⟨h'.1, wpOrd_held hs hQ rest _ _ _ hB' h'.1 h'.2⟩) h)
      · rw [if_neg hw] at h ⊢
        exact ⟨hS, wpOrd_held hs hQ rest _ _ _ hB' h.1 h.2⟩

/-- The walk as a structure, so that nothing looks into it unasked. -/
structure Ord (P : Program) (ops : Array Oper) (Q : Exit → Act → World → Prop) (S : World → Prop) (l : List (Nat × Bool)) (a : Act) (w : World) : Prop where
  out : wpOrd P ops Q S l a w

/-- A region that asks the tape, by a named order. -/
theorem wp_region_ord {id : Nat} {a : Act} {w : World} (l : List (Nat × Bool)) (hm : P.follows .mixedOrders = true) (hs : Region.noSelect ops = true)
    (hB : (ordB .any ops l (Array.replicate ops.size false) && l.length == ops.size) = true) (hS : S w.drew) (h : Ord P ops (NoPanic Q) S l a w.drew) : (Code.region id ops true).wp P Q a w := by
  rw [Bool.and_eq_true] at hB
  have hl : l.length = ops.size := by simpa using hB.2
  refine wp_region_noPanic (wp_region_held_drew (S := S) hm hS (fun _ => ?_))
  rw [← hl]
  have := wpOrd_held (P := P) (md := .any) (S := S) (Q := NoPanic Q) hs (fun _ _ _ _ _ h => h) l (Array.replicate ops.size false) a w.drew hB.1 hS h.out
  rwa [← hl] at this

/-! One operation at a time, what follows behind a variable. -/
def nth {α : Type} : List α → Nat → Option α
  | [], _ => none
  | x :: _, 0 => some x
  | _ :: l, n + 1 => nth l n
theorem nth_at {α : Type} : ∀ (l : List α) (n : Nat), nth l n = l[n]?
  | [], _ => rfl
  | _ :: _, 0 => rfl
  | _ :: l, n + 1 => by rw [nth, nth_at l n]; rfl
theorem nth_arr {α : Type} {l : List α} {n : Nat} {x : α} (h : nth l n = some x) : l.toArray[n]? = some x := by rw [List.getElem?_toArray, ← nth_at]; exact h

theorem wpOrd_take {ls : List Oper} {i : Nat} {o : Oper} {rest : List (Nat × Bool)} {a : Act} {w : World} (ho' : nth ls i = some o) (hw : Region.wanted o (yielded ls.toArray a.tmps) = true)
    (h : ∀ K : Act → World → Prop, (∀ a w, Ord P ls.toArray Q S rest a w → K a w) → ∃ v, (∀ i : { w' // S w' }, (execOp a.eval o).run P i.val = .ok (.value v) i.val) ∧ K (a.put o.dst v) w) :
    Ord P ls.toArray Q S ((i, true) :: rest) a w := by
  have ho := nth_arr ho'
  refine ⟨?_⟩
  simp only [wpOrd, ho]
  unfold OrdTake
  simp only [if_true]
  rw [if_pos hw]
  exact h _ (fun _ _ h => h.out)
theorem wpOrd_busy {ls : List Oper} {i : Nat} {o : Oper} {rest : List (Nat × Bool)} {a : Act} {w : World} (ho' : nth ls i = some o) (hw : Region.wanted o (yielded ls.toArray a.tmps) = true)
    (h : ∀ K : Act → World → Prop, (∀ a w, S w → Ord P ls.toArray Q S rest a w → K a w) → Oper.wp P o a w K Q) : Ord P ls.toArray Q S ((i, false) :: rest) a w := by
  have ho := nth_arr ho'
  refine ⟨?_⟩
  simp only [wpOrd, ho, Bool.false_eq_true, if_false]
  unfold OrdBusy
  rw [if_pos hw]
  exact h _ (fun _ _ hs h => ⟨hs, h.out⟩)
/-- A move, an assignment. -/
theorem wpOrd_move {ls : List Oper} {i : Nat} {o : Oper} {x : Operand} {rest : List (Nat × Bool)} {a : Act} {w : World} (ho' : nth ls i = some o) (hop : o.op = .move x)
    (hw : Region.wanted o (yielded ls.toArray a.tmps) = true)
    (h : ∀ K : Act → World → Prop, (∀ a w, Ord P ls.toArray Q S rest a w → K a w) → K (a.put o.dst (a.eval x)) w) : Ord P ls.toArray Q S ((i, true) :: rest) a w := by
  refine wpOrd_take ho' hw (fun K hK => ⟨a.eval x, fun i => ?_, h K hK⟩)
  unfold execOp
  rw [hop]
  rfl
theorem wpOrd_assign {ls : List Oper} {i : Nat} {o : Oper} {x : Operand} {rest : List (Nat × Bool)} {a : Act} {w : World} (ho' : nth ls i = some o) (hop : o.op = .assign x)
    (hw : Region.wanted o (yielded ls.toArray a.tmps) = true)
    (h : ∀ K : Act → World → Prop, (∀ a w, Ord P ls.toArray Q S rest a w → K a w) → K (a.put o.dst (a.eval x)) w) : Ord P ls.toArray Q S ((i, true) :: rest) a w := by
  refine wpOrd_take ho' hw (fun K hK => ⟨a.eval x, fun i => ?_, h K hK⟩)
  unfold execOp
  rw [hop]
  rfl

/-- A pick whose test is false, or true. -/
theorem wpOrd_pickF {ls : List Oper} {i : Nat} {o : Oper} {c x y : Operand} {rest : List (Nat × Bool)} {a : Act} {w : World} (ho' : nth ls i = some o) (hop : o.op = .pick c x y)
    (hw : Region.wanted o (yielded ls.toArray a.tmps) = true) (hc : a.eval c = .bool false)
    (h : ∀ K : Act → World → Prop, (∀ a w, Ord P ls.toArray Q S rest a w → K a w) → K (a.put o.dst (a.eval y)) w) : Ord P ls.toArray Q S ((i, true) :: rest) a w := by
  have ho := nth_arr ho'
  refine ⟨?_⟩
  simp only [wpOrd, ho]
  unfold OrdTake
  simp only [if_true]
  rw [if_pos hw]
  refine ⟨a.eval y, fun i => ?_, h _ (fun _ _ h => h.out)⟩
  unfold execOp
  rw [hop]
  dsimp only
  rw [hc]
  rfl
theorem wpOrd_pickT {ls : List Oper} {i : Nat} {o : Oper} {c x y : Operand} {rest : List (Nat × Bool)} {a : Act} {w : World} (ho' : nth ls i = some o) (hop : o.op = .pick c x y)
    (hw : Region.wanted o (yielded ls.toArray a.tmps) = true) (hc : a.eval c = .bool true)
    (h : ∀ K : Act → World → Prop, (∀ a w, Ord P ls.toArray Q S rest a w → K a w) → K (a.put o.dst (a.eval x)) w) : Ord P ls.toArray Q S ((i, true) :: rest) a w := by
  have ho := nth_arr ho'
  refine ⟨?_⟩
  simp only [wpOrd, ho]
  unfold OrdTake
  simp only [if_true]
  rw [if_pos hw]
  refine ⟨a.eval x, fun i => ?_, h _ (fun _ _ h => h.out)⟩
  unfold execOp
  rw [hop]
  dsimp only
  rw [hc]
  rfl

/-- One that its guard passes over (its slot is as it was). -/
theorem wpOrd_skip {ls : List Oper} {i : Nat} {o : Oper} {t : Bool} {rest : List (Nat × Bool)} {a : Act} {w : World} (ho' : nth ls i = some o) (hS : S w)
    (hw : Region.wanted o (yielded ls.toArray a.tmps) = false) (hp : a.put o.dst undef = a) (h : Ord P ls.toArray Q S rest a w) : Ord P ls.toArray Q S ((i, t) :: rest) a w := by
  have ho := nth_arr ho'
  refine ⟨?_⟩
  simp only [wpOrd, ho]
  unfold OrdTake OrdBusy
  rw [hw, hp]
  cases t
  · simp only [Bool.false_eq_true, if_false]; exact ⟨hS, h.out⟩
  · simp only [Bool.false_eq_true, if_false, if_true]; exact h.out
/-- One that its guard passes over, whatever its slot held. -/
theorem wpOrd_pass {ls : List Oper} {i : Nat} {o : Oper} {t : Bool} {rest : List (Nat × Bool)} {a : Act} {w : World} (ho' : nth ls i = some o) (hS : S w)
    (hw : Region.wanted o (yielded ls.toArray a.tmps) = false)
    (h : ∀ K : Act → World → Prop, (∀ a w, Ord P ls.toArray Q S rest a w → K a w) → K (a.put o.dst undef) w) : Ord P ls.toArray Q S ((i, t) :: rest) a w := by
  have ho := nth_arr ho'
  refine ⟨?_⟩
  have hk := h (fun a w => wpOrd P ls.toArray Q S rest a w) (fun _ _ h => h.out)
  simp only [wpOrd, ho]
  unfold OrdTake OrdBusy
  rw [hw]
  cases t
  · simp only [Bool.false_eq_true, if_false]; exact ⟨hS, hk⟩
  · simp only [Bool.false_eq_true, if_false, if_true]; exact hk
theorem wpOrd_done {a : Act} {w : World} (h : Q .normal a w) : Ord P ops (NoPanic Q) S [] a w := ⟨h⟩

end
end Go.Proofs.Ytifdalddchmlmaa
