/-
  Proved: for every program, any two memories, every script and every fuel, FindNothing returns true (of a program without fault, two memories that fit and have the same public words, and up to 4000 steps: in the hardened program, and in the fenced one, nothing is found) and leaves its arguments as they were; no conditions.
-/
import Derived.Test.YtapagihngaiebaaGreatRows
import Derived.WalkKit
import Derived.ProofKit
import Derived.OpenShut
import Derived.Test.YtapagihngaiebaaGreatJoined0
import Derived.Test.YtapagihngaiebaaGreatJoined7
import Derived.Test.YtapagihngaiebaaGreatJoined10
import Derived.Test.YtapagihngaiebaaGreatJoined11
namespace Go.Proofs.YtapagihngaiebaaGreat
open Go.ChangeShapes Go.WideShapes Go.ChangeAt Go.RowKit Go.Deep
set_option linter.unusedVariables false
set_option linter.unusedSimpArgs false
set_option maxRecDepth 8000

namespace findNothing

theorem own : ownKnob Tryz.prog.godebug = none := by kernel_rfl
theorem J6p : laidOutB Tryz.prog = true := by kernel_rfl

theorem walk (p : Prg) (l : Loc) (m m' : Mem) (ml ml' : MLoc) (sa : Option Addr) (sb so sn sc : Nat) (L : List Int) (fuel : Int) (w : World) (hp : PIn w p l) (hf : p.Fit) (hm : MRaw w m ml) (hwd : ∀ j, j < m.ml → ∀ i, i < m.len j → B64 (m.wd j i)) (hm' : MRaw w m' ml') (hwd' : ∀ j, j < m'.ml → ∀ i, i < m'.len j → B64 (m'.wd j i)) (hL : L.length = sn) (hcap : sn ≤ sc) (hs : SIn w sa sb so L) :
    Calls Tryz.prog 3 #[.agg #[.slice l.ra p.rl l.rc, .slice l.ca p.cl l.cc], .slice ml.ma m.ml ml.mc, .slice ml'.ma m'.ml ml'.mc, .slice sa sn sc, .int .i64 fuel] w fun e w' => e = .returned (.bool true) ∧ More w w' :=
  J59 p l m m' ml ml' sa sb so sn sc L fuel w hp hf hm hwd hm' hwd' hL hcap hs (Jc4 p) (Je1 p) (fun h k => k.elim (fun k => ⟨Jaw hf k, J9k k⟩) (fun k => ⟨(J6i hf k).1, (J6i hf k).2.2⟩)) (fun ok lk hk hc w1 m1 => Jdn p l w1 (hp.more m1) hf ok lk hk hc) (fun ok lk hk hc w1 m1 => Jas p l w1 (hp.more m1) hf ok lk hk hc) Jd7

/-! ### THE ROW's STEP -/
set_option maxRecDepth 100000 in
theorem Jmm (os : Os) (started : os.Started) (H : Type) (enc : TypeId × Value → H) :
    ReturnsInHanded {} Tryz.checked os 3 .any (Rows.findNothingSpec.pre6 enc Tryz.prog Tryz.f3 Rows.findNothingRow.domain false) (Rows.findNothingSpec.post enc Tryz.prog Tryz.f3 false true false false) := by
  refine returnsInHanded_of_change (C := Tryz.checked) own started (by kernel_rfl) Tryz.func3
    (ChangeSpec.witness6 (enc := enc) (C := Tryz.checked) false ⟨#[], #[.agg #[.slice none 0 0, .slice none 0 0], .slice none 0 0, .slice none 0 0, .slice none 0 0, .int .i64 0], []⟩ 8 (by kernel_rfl) (by kernel_rfl) (by kernel_rfl) (by kernel_rfl)) ?_
  intro W base args ds gs before hval0 hW hcnd _
  have hval : ∀ (j : Nat) t v, Tryz.f3.params[j]? = some t → args[j]? = some v → Value.okWide Tryz.prog W .any base t v := hval0
  have hW' := hW
  obtain ⟨p, q, hA0, hV, rfl, hfz, hnd⟩ := hW
  have hA : DataW.TrodAll enc Tryz.prog W 0 (fun _ => true) true Tryz.f3.params.toList args.toList ds p := hA0
  rw [Tryz.params3] at hA hval
  obtain ⟨v0, vs0, d0, ds0, p0, q0, hargs, rfl, rfl, h0, r0⟩ := trodAll_cons hA
  obtain ⟨v1, vs1, d1, ds1, p1, q1, rfl, rfl, rfl, h1, r1⟩ := trodAll_cons r0
  obtain ⟨v2, vs2, d2, ds2, p2, q2, rfl, rfl, rfl, h2, r2⟩ := trodAll_cons r1
  obtain ⟨v3, vs3, d3, ds3, p3, q3, rfl, rfl, rfl, h3, r3⟩ := trodAll_cons r2
  obtain ⟨v4, vs4, d4, ds4, p4, q4, rfl, rfl, rfl, h4, r4⟩ := trodAll_cons r3
  obtain ⟨rfl, rfl, rfl⟩ := trodAll_nil r4
  obtain rfl : args = #[v0, v1, v2, v3, v4] := by cases args; simp_all
  obtain ⟨rfl, rfl⟩ := trodVars_none hV
  have lt0 : ∀ x ∈ p0, x.block < W.heap.size := by obtain ⟨m, hm⟩ := h0; exact DataW.trod_lt m _ _ _ hm
  have lt1 : ∀ x ∈ p1, x.block < W.heap.size := by obtain ⟨m, hm⟩ := h1; exact DataW.trod_lt m _ _ _ hm
  have lt2 : ∀ x ∈ p2, x.block < W.heap.size := by obtain ⟨m, hm⟩ := h2; exact DataW.trod_lt m _ _ _ hm
  have lt3 : ∀ x ∈ p3, x.block < W.heap.size := by obtain ⟨m, hm⟩ := h3; exact DataW.trod_lt m _ _ _ hm
  have lt4 : ∀ x ∈ p4, x.block < W.heap.size := by obtain ⟨m, hm⟩ := h4; exact DataW.trod_lt m _ _ _ hm
  obtain ⟨P0, l0, rfl, hin0, hfit0⟩ := Jfb (hval 0 25 v0 rfl rfl) h0
  obtain ⟨m1, ml1, rfl, hm1, hwd1⟩ := J9x (hval 1 26 v1 rfl rfl) h1
  obtain ⟨m2, ml2, rfl, hm2, hwd2⟩ := J9x (hval 2 26 v2 rfl rfl) h2
  obtain ⟨sa3, sb3, so3, sn3, sc3, L3, rfl, hL3, hcap3, hsin3⟩ := Jbe (hval 3 27 v3 rfl rfl) h3
  obtain ⟨n4, rfl, _, _, hwf4⟩ := open_int Tryz.underlying3 (hval 4 3 v4 rfl rfl) h4
  clear hA0 hval0
  refine (walk P0 l0 m1 m2 ml1 ml2 sa3 sb3 so3 sn3 sc3 L3 n4 W hin0 hfit0 hm1 hwd1 hm2 hwd2 hL3 hcap3 hsin3).mono fun e W' ⟨he, bel⟩ => ?_
  subst he
  exact ⟨_, rfl, _, _, _, [], _, [], hW', trodAll_mk1 (shut_bool Tryz.underlying4 _), (trodAll_cons_mk (Below.trod J6p (by kernel_rfl) (of_decide_eq_true (by kernel_rfl)) h0 bel lt0) (trodAll_cons_mk (Below.trod J6p (by kernel_rfl) (of_decide_eq_true (by kernel_rfl)) h1 bel lt1) (trodAll_cons_mk (Below.trod J6p (by kernel_rfl) (of_decide_eq_true (by kernel_rfl)) h2 bel lt2) (trodAll_cons_mk (Below.trod J6p (by kernel_rfl) (of_decide_eq_true (by kernel_rfl)) h3 bel lt3) (trodAll_cons_mk (Below.trod J6p (by kernel_rfl) (of_decide_eq_true (by kernel_rfl)) h4 bel lt4) trodAll_mk0))))), rfl, Below.frame bel _, fun h => by cases h⟩

theorem over : Rows.findNothingRow.holds Tryz.pinned (OpenSpec.ofChange Rows.findNothingSpec) :=
  OpenClaim.holds_of_wide 3 Tryz.f3 rfl rfl rfl rfl rfl rfl rfl ⟨rfl, rfl, rfl, rfl, rfl⟩ rfl rfl rfl rfl rfl (by kernel_rfl) Tryz.func3 (by kernel_rfl)
    (of_decide_eq_true (by kernel_rfl)) (by unfold Func.isWrapper; first | (rw [if_pos (by decide +kernel)]; kernel_rfl) | (rw [if_neg (by decide +kernel)]; exact ⟨rfl, rfl⟩))
    (fun os started H enc _ => Jmm os started H enc)

end findNothing

/-- The given statement. -/
theorem findNothing_holds : Rows.FindNothingSaid :=
  findNothing.over
#print axioms findNothing_holds
end Go.Proofs.YtapagihngaiebaaGreat
