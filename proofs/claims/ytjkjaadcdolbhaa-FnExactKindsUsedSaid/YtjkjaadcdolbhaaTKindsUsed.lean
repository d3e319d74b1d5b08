/-
  For every frame that can be read and every number, the law FnExactKindsUsed returns true and its arguments read afterwards as before. No condition.
-/
import Derived.Test.YtjkjaadcdolbhaaLKindsUsed
import Derived.Test.YtjkjaadcdolbhaaAdout
import Derived.Test.YtjkjaadcdolbhaaMkinds
import Derived.Test.YtjkjaadcdolbhaaKb
import Derived.Test.YtjkjaadcdolbhaaKa
import Derived.WalkKit
import Derived.ProofKit
import Derived.OpenShut
import Derived.ShutString
import Derived.ChangeOld
import Derived.Below
namespace Go.Proofs.Ytjkjaadcdolbhaa.fnExactKindsUsed
open Go.ChangeShapes Go.WideShapes Go.ChangeAt Go.RowKit
open Go.ChangeMaps (open_string shut_string)
set_option linter.unusedVariables false

theorem own : ownKnob Try.prog.godebug = none := by kernel_rfl
theorem laidOut : laidOutB Try.prog = true := by kernel_rfl

theorem walk (up0 lo0 : Int) (sv0 : Value) (rs0 : List (Int × Int)) (a1 : Int) (w : World) (w0 : RodsR w sv0 rs0) (x0 : (Lit.int .i64 up0).wf = true) (y0 : (Lit.int .i64 lo0).wf = true) (w1 : (Lit.int .i64 a1).wf = true) :
    Calls Try.prog 8 #[.agg #[.int .i64 up0, .int .i64 lo0, sv0], .int .i64 a1] w fun e w' => e = .returned (.bool true) ∧ Below w.heap.size w w' := by
  have hb : -9223372036854775808 ≤ a1 ∧ a1 ≤ 9223372036854775807 := wf_i64 w1
  by_cases hc : canF up0 lo0 rs0 a1
  · refine lawKindsUsed w up0 lo0 sv0 rs0 w0 a1 (goK 0 (digs rs0.length a1) rs0 [0, 0, 0, 0]) (by rw [goK_len]; simp) true (fun _ s w h => speKindsUsed_yes up0 lo0 s rs0 a1 w h hc) (fun _ s w h => (impKindsUsed_yes up0 lo0 s rs0 a1 w h hc).mono ?_)
    rintro e w' ⟨⟨g, j0, j1, j2, j3, rfl, hk, hg1, hg2, x0, x1, x2, x3, x4, hh⟩, hb'⟩
    exact ⟨⟨_, rfl, hk ▸ ocr_box hh hg1 hg2⟩, hb'⟩
  · refine lawKindsUsed w up0 lo0 sv0 rs0 w0 a1 [] (by simp) false (fun _ s w h => speKindsUsed_no up0 lo0 s rs0 a1 w h hc) (fun _ s w h => (impKindsUsed_no up0 lo0 s rs0 a1 w h hb hc).mono ?_)
    rintro e w' ⟨⟨sq, rfl, ho⟩, hb'⟩
    exact ⟨⟨_, rfl, OcR.of_own ho⟩, hb'⟩

set_option maxRecDepth 100000 in
theorem lifted (os : Os) (started : os.Started) (H : Type) (enc : TypeId × Value → H) :
    ReturnsInHanded {} Try.checked os 8 .any (Rows.fnExactKindsUsedSpec.pre6 enc Try.prog Try.f8 Rows.fnExactKindsUsedRow.domain false) (Rows.fnExactKindsUsedSpec.post enc Try.prog Try.f8 false true false false) := by
  refine returnsInHanded_of_change (C := Try.checked) own started (by kernel_rfl) Try.func8
    (ChangeSpec.witness6 (enc := enc) (C := Try.checked) false ⟨#[], #[.agg #[.int .i64 0, .int .i64 0, .slice none 0 0], .int .i64 0], []⟩ 8 (by kernel_rfl) (by kernel_rfl) (by kernel_rfl) (by kernel_rfl)) ?_
  intro W base args ds gs before hval0 hW hcnd _
  have hval : ∀ (j : Nat) t v, Try.f8.params[j]? = some t → args[j]? = some v → Value.okWide Try.prog W .any base t v := hval0
  have hW' := hW
  obtain ⟨p, q, hA0, hV, rfl, hfz, hnd⟩ := hW
  have hA : DataW.TrodAll enc Try.prog W 0 (fun _ => true) true Try.f8.params.toList args.toList ds p := hA0
  rw [Try.params8] at hA hval
  obtain ⟨v0, vs0, d0, ds0, p0, q0, hargs, rfl, rfl, h0, r0⟩ := trodAll_cons hA
  obtain ⟨v1, vs1, d1, ds1, p1, q1, rfl, rfl, rfl, h1, r1⟩ := trodAll_cons r0
  obtain ⟨rfl, rfl, rfl⟩ := trodAll_nil r1
  obtain rfl : args = #[v0, v1] := by cases args; simp_all
  obtain ⟨rfl, rfl⟩ := trodVars_none hV
  have k0 := h0
  have lt0 : ∀ x ∈ p0, x.block < W.heap.size := by obtain ⟨m, hm⟩ := k0; exact DataW.trod_lt m _ _ _ hm
  have k1 := h1
  have lt1 : ∀ x ∈ p1, x.block < W.heap.size := by obtain ⟨m, hm⟩ := k1; exact DataW.trod_lt m _ _ _ hm
  obtain ⟨up0, lo0, sv0, rs0, rfl, w0, x0, y0⟩ := frame_open (hval 0 51 v0 rfl rfl) h0
  obtain ⟨a1, rfl, rfl, rfl, w1⟩ := open_int Try.underlying3 (hval 1 3 v1 rfl rfl) h1
  clear hA0 hval0
  refine (walk up0 lo0 sv0 rs0 a1 W w0 x0 y0 w1).mono fun e W' ⟨he, bel⟩ => ?_
  subst he
  exact ⟨_, rfl, _, _, _, [], _, [], hW', trodAll_mk1 (shut_bool Try.underlying4 _), (trodAll_cons_mk (Below.trod laidOut (by kernel_rfl) (of_decide_eq_true (by kernel_rfl)) k0 bel lt0) (trodAll_cons_mk (Below.trod laidOut (by kernel_rfl) (of_decide_eq_true (by kernel_rfl)) k1 bel lt1) trodAll_mk0)), rfl, bel.frame _, fun h => by cases h⟩

theorem proved : Rows.FnExactKindsUsedSaid :=
  OpenClaim.holds_of_wide 8 Try.f8 rfl rfl rfl rfl rfl rfl rfl ⟨rfl, rfl, rfl, rfl, rfl⟩ rfl rfl rfl rfl rfl (by kernel_rfl) Try.func8 (by kernel_rfl)
    (of_decide_eq_true (by kernel_rfl)) (by unfold Func.isWrapper; first | (rw [if_pos (by decide +kernel)]; kernel_rfl) | (rw [if_neg (by decide +kernel)]; exact ⟨rfl, rfl⟩))
    (fun os started H enc _ => lifted os started H enc)
#print axioms proved
end Go.Proofs.Ytjkjaadcdolbhaa.fnExactKindsUsed
