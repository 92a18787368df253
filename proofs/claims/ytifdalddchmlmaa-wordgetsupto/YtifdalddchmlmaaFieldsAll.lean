/-
  What layout's fieldsAllowed comes to, whatever the operation.
-/
import Derived.Test.YtifdalddchmlmaaFieldsK
import Derived.Test.YtifdalddchmlmaaNamed
namespace Go.Proofs.Ytifdalddchmlmaa
open Go.RowKit

theorem ins_iff (rl : Nat) (log : Nat → Int) (cl : Nat) (regs op a b c n : Int) : InsOk rl log cl regs ⟨op, a, b, c, n⟩ ↔ NamedOk op a b c n ∧ FieldsOk rl log cl regs op a b c n := by
  unfold InsOk NamedOk FieldsOk Btw
  dsimp only
  by_cases h1 : op = 1
  · rw [if_pos h1, if_pos h1, if_pos h1]; exact ⟨fun h => ⟨⟨h.2.1, h.2.2⟩, h.1⟩, fun h => ⟨h.2, h.1.1, h.1.2⟩⟩
  rw [if_neg h1, if_neg h1, if_neg h1]
  by_cases h2 : op = 2
  · rw [if_pos h2, if_pos h2, if_pos h2]; exact ⟨fun h => ⟨⟨h.2.2.1, h.2.2.2⟩, h.1, h.2.1⟩, fun h => ⟨h.2.1, h.2.2, h.1.1, h.1.2⟩⟩
  rw [if_neg h2, if_neg h2, if_neg h2]
  by_cases h3 : op = 3
  · rw [if_pos h3, if_pos h3, if_pos h3]; exact ⟨fun h => ⟨trivial, ⟨h.1, h.2.1⟩, h.2.2⟩, fun h => ⟨h.2.1.1, h.2.1.2, h.2.2⟩⟩
  rw [if_neg h3, if_neg h3, if_neg h3]
  by_cases h4 : op = 4
  · rw [if_pos h4, if_pos h4, if_pos h4]; exact ⟨fun h => ⟨trivial, ⟨h.1, h.2.1⟩, h.2.2⟩, fun h => ⟨h.2.1.1, h.2.1.2, h.2.2⟩⟩
  rw [if_neg h4, if_neg h4, if_neg h4]
  by_cases h5 : op = 5
  · rw [if_pos h5, if_pos h5, if_pos h5]; exact ⟨fun h => ⟨h.2.1, h.1, h.2.2.1, h.2.2.2⟩, fun h => ⟨h.2.1, h.1, h.2.2.1, h.2.2.2⟩⟩
  rw [if_neg h5, if_neg h5, if_neg h5]
  by_cases h6 : op = 6
  · rw [if_pos h6, if_pos h6, if_pos h6]; exact ⟨fun h => ⟨h.2.1, h.1, h.2.2.1, h.2.2.2⟩, fun h => ⟨h.2.1, h.1, h.2.2.1, h.2.2.2⟩⟩
  rw [if_neg h6, if_neg h6, if_neg h6]
  by_cases h7 : op = 7
  · rw [if_pos h7, if_pos h7, if_pos h7]; exact ⟨fun h => ⟨⟨h.1, h.2.1, h.2.2.1⟩, h.2.2.2⟩, fun h => ⟨h.1.1, h.1.2.1, h.1.2.2, h.2⟩⟩
  rw [if_neg h7, if_neg h7, if_neg h7]
  by_cases h8 : op = 8
  · rw [if_pos h8, if_pos h8, if_pos h8]; exact ⟨fun h => ⟨trivial, ⟨h.1, h.2.1⟩, h.2.2.1, h.2.2.2⟩, fun h => ⟨h.2.1.1, h.2.1.2, h.2.2.1, h.2.2.2⟩⟩
  rw [if_neg h8, if_neg h8, if_neg h8]
  by_cases h9 : op = 9
  · rw [if_pos h9, if_pos h9, if_pos h9]; exact ⟨fun h => ⟨⟨h.2.1, h.2.2.1, h.2.2.2⟩, h.1⟩, fun h => ⟨h.2, h.1.1, h.1.2.1, h.1.2.2⟩⟩
  rw [if_neg h9, if_neg h9, if_neg h9]
  by_cases h10 : op = 10
  · rw [if_pos h10, if_pos h10, if_pos h10]; exact ⟨fun h => ⟨h.2.2, h.1, h.2.1⟩, fun h => ⟨h.2.1, h.2.2, h.1⟩⟩
  rw [if_neg h10, if_neg h10, if_neg h10]
  by_cases h11 : op = 11
  · rw [if_pos h11, if_pos h11, if_pos h11]; exact ⟨fun h => ⟨⟨h.2.1, h.2.2.1⟩, h.1, h.2.2.2.1, h.2.2.2.2⟩, fun h => ⟨h.2.1, h.1.1, h.1.2, h.2.2.1, h.2.2.2⟩⟩
  rw [if_neg h11, if_neg h11, if_neg h11]
  by_cases h12 : op = 12
  · rw [if_pos h12, if_pos h12, if_pos h12]; exact ⟨fun h => ⟨h, trivial⟩, fun h => h.1⟩
  rw [if_neg h12, if_neg h12, if_neg h12]
  exact ⟨fun h => ⟨h.2.2.2.2, h.1, h.2.1, h.2.2.1, h.2.2.2.1⟩, fun h => ⟨h.2.1, h.2.2.1, h.2.2.2.1, h.2.2.2.2, h.1⟩⟩

theorem fields_5 (ra : Option Addr) (rl rc : Nat) (ca : Option Addr) (cl cc : Nat) (code regs : Int) (a b c n : Int) (rb ro : Nat) (log : Nat → Int) (sec : Nat → Bool) (w : World)
    (hra : 0 < rl → ra = some ⟨rb, ro, none⟩) (hr : RegsAt w rb ro rl log sec) (hok : RegionsOk rl log) :
    Calls Try.prog 26 #[.agg #[.slice ra rl rc, .slice ca cl cc, .int .i64 code, .int .i64 regs], .agg #[.int .i64 5, .int .i64 a, .int .i64 b, .int .i64 c, .int .i64 n]] w (Says (Reg regs a ∧ Rgn rl c ∧ Wrd log c n) w) := by
  by_cases hA : Reg regs a
  · by_cases hC : Rgn rl c
    · have h0 := hC.1
      have h1 := hC.2
      obtain rfl := hra (by omega)
      have hk : c.toNat < rl := by omega
      refine (fields_56_all 5 (by decide) rb ro rl rc ca cl cc code regs a b c n (log c.toNat) (wordsI (log c.toNat)) (sec c.toNat) w h0 h1 (hr _ hk).1 (hr _ hk).2
        (fun g cp w h => (registers1 _ rl rc ca cl cc code regs g cp a w h).mono fun _ _ s => s.is_yes hA)
        (fun w => (region_calls _ rl rc ca cl cc code regs c w).mono fun _ _ s => s.is_yes hC)
        (fun w => words_calls _ (hok.2 _ hk).1 (hok.2 _ hk).2 _ w)).mono ?_
      rintro e w' ⟨r, rfl, h, m⟩
      exact ⟨r, rfl, h.trans ⟨fun h => ⟨hA, hC, h⟩, fun h => h.2.2⟩, m⟩
    · refine (fields_56_norgn 5 (by decide) ra rl rc ca cl cc code regs a b c n w
        (fun g cp w h => (registers1 _ rl rc ca cl cc code regs g cp a w h).mono fun _ _ s => s.is_yes hA)
        (fun w => (region_calls _ rl rc ca cl cc code regs c w).mono fun _ _ s => s.is_no hC)).mono ?_
      rintro e w' ⟨rfl, m⟩
      exact Says.no (fun h => hC h.2.1) m
  · refine (fields_56_noreg 5 (by decide) ra rl rc ca cl cc code regs a b c n w
      (fun g cp w h => (registers1 _ rl rc ca cl cc code regs g cp a w h).mono fun _ _ s => s.is_no hA)).mono ?_
    rintro e w' ⟨rfl, m⟩
    exact Says.no (fun h => hA h.1) m

theorem fields_6 (ra : Option Addr) (rl rc : Nat) (ca : Option Addr) (cl cc : Nat) (code regs : Int) (a b c n : Int) (rb ro : Nat) (log : Nat → Int) (sec : Nat → Bool) (w : World)
    (hra : 0 < rl → ra = some ⟨rb, ro, none⟩) (hr : RegsAt w rb ro rl log sec) (hok : RegionsOk rl log) :
    Calls Try.prog 26 #[.agg #[.slice ra rl rc, .slice ca cl cc, .int .i64 code, .int .i64 regs], .agg #[.int .i64 6, .int .i64 a, .int .i64 b, .int .i64 c, .int .i64 n]] w (Says (Reg regs a ∧ Rgn rl c ∧ Wrd log c n) w) := by
  by_cases hA : Reg regs a
  · by_cases hC : Rgn rl c
    · have h0 := hC.1
      have h1 := hC.2
      obtain rfl := hra (by omega)
      have hk : c.toNat < rl := by omega
      refine (fields_56_all 6 (by decide) rb ro rl rc ca cl cc code regs a b c n (log c.toNat) (wordsI (log c.toNat)) (sec c.toNat) w h0 h1 (hr _ hk).1 (hr _ hk).2
        (fun g cp w h => (registers1 _ rl rc ca cl cc code regs g cp a w h).mono fun _ _ s => s.is_yes hA)
        (fun w => (region_calls _ rl rc ca cl cc code regs c w).mono fun _ _ s => s.is_yes hC)
        (fun w => words_calls _ (hok.2 _ hk).1 (hok.2 _ hk).2 _ w)).mono ?_
      rintro e w' ⟨r, rfl, h, m⟩
      exact ⟨r, rfl, h.trans ⟨fun h => ⟨hA, hC, h⟩, fun h => h.2.2⟩, m⟩
    · refine (fields_56_norgn 6 (by decide) ra rl rc ca cl cc code regs a b c n w
        (fun g cp w h => (registers1 _ rl rc ca cl cc code regs g cp a w h).mono fun _ _ s => s.is_yes hA)
        (fun w => (region_calls _ rl rc ca cl cc code regs c w).mono fun _ _ s => s.is_no hC)).mono ?_
      rintro e w' ⟨rfl, m⟩
      exact Says.no (fun h => hC h.2.1) m
  · refine (fields_56_noreg 6 (by decide) ra rl rc ca cl cc code regs a b c n w
      (fun g cp w h => (registers1 _ rl rc ca cl cc code regs g cp a w h).mono fun _ _ s => s.is_no hA)).mono ?_
    rintro e w' ⟨rfl, m⟩
    exact Says.no (fun h => hA h.1) m

theorem fields_calls (ra : Option Addr) (rl rc : Nat) (ca : Option Addr) (cl cc : Nat) (code regs : Int) (op a b c n : Int) (rb ro : Nat) (log : Nat → Int) (sec : Nat → Bool) (w : World)
    (hra : 0 < rl → ra = some ⟨rb, ro, none⟩) (hr : RegsAt w rb ro rl log sec) (hok : RegionsOk rl log) :
    Calls Try.prog 26 #[.agg #[.slice ra rl rc, .slice ca cl cc, .int .i64 code, .int .i64 regs], .agg #[.int .i64 op, .int .i64 a, .int .i64 b, .int .i64 c, .int .i64 n]] w (Says (FieldsOk rl log cl regs op a b c n) w) := by
  unfold FieldsOk
  by_cases h1 : op = 1
  · rw [if_pos h1]; subst h1; exact fields_1 ra rl rc ca cl cc code regs a b c n w
  rw [if_neg h1]
  by_cases h2 : op = 2
  · rw [if_pos h2]; subst h2; exact fields_2 ra rl rc ca cl cc code regs a b c n w
  rw [if_neg h2]
  by_cases h3 : op = 3
  · rw [if_pos h3]; subst h3; exact fields_3 ra rl rc ca cl cc code regs a b c n w
  rw [if_neg h3]
  by_cases h4 : op = 4
  · rw [if_pos h4]; subst h4; exact fields_4 ra rl rc ca cl cc code regs a b c n w
  rw [if_neg h4]
  by_cases h5 : op = 5
  · rw [if_pos h5]; subst h5; exact fields_5 ra rl rc ca cl cc code regs a b c n rb ro log sec w hra hr hok
  rw [if_neg h5]
  by_cases h6 : op = 6
  · rw [if_pos h6]; subst h6; exact fields_6 ra rl rc ca cl cc code regs a b c n rb ro log sec w hra hr hok
  rw [if_neg h6]
  by_cases h7 : op = 7
  · rw [if_pos h7]; subst h7; exact fields_7 ra rl rc ca cl cc code regs a b c n w
  rw [if_neg h7]
  by_cases h8 : op = 8
  · rw [if_pos h8]; subst h8; exact fields_8 ra rl rc ca cl cc code regs a b c n w
  rw [if_neg h8]
  by_cases h9 : op = 9
  · rw [if_pos h9]; subst h9; exact fields_9 ra rl rc ca cl cc code regs a b c n w
  rw [if_neg h9]
  by_cases h10 : op = 10
  · rw [if_pos h10]; subst h10; exact fields_10 ra rl rc ca cl cc code regs a b c n w
  rw [if_neg h10]
  by_cases h11 : op = 11
  · rw [if_pos h11]; subst h11; exact fields_11 ra rl rc ca cl cc code regs a b c n w
  rw [if_neg h11]
  by_cases h12 : op = 12
  · rw [if_pos h12]; subst h12; exact fields_12 ra rl rc ca cl cc code regs a b c n w
  rw [if_neg h12]
  exact fields_else ra rl rc ca cl cc code regs op a b c n h1 h2 h3 h4 h5 h6 h7 h8 h9 h10 h11 h12 w

end Go.Proofs.Ytifdalddchmlmaa
