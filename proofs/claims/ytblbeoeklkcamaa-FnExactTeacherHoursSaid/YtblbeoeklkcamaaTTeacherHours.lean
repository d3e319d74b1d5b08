/-
  For every list that can be read, the law FnExactTeacherHours returns true and its argument reads afterwards as before. No condition.
-/
import Derived.Test.YtblbeoeklkcamaaLTeacherHours
import Derived.Test.YtblbeoeklkcamaaLe8
import Derived.Test.YtblbeoeklkcamaaLi9
import Derived.Test.YtblbeoeklkcamaaLessono
import Derived.WalkKit
import Derived.ProofKit
import Derived.OpenShut
import Derived.ShutString
import Derived.ChangeOld
import Derived.Below
namespace Go.Proofs.Ytblbeoeklkcamaa.fnExactTeacherHours
open Go.ChangeShapes Go.WideShapes Go.ChangeAt Go.RowKit
open Go.ChangeMaps (open_string shut_string)
set_option linter.unusedVariables false

theorem own : ownKnob Try.prog.godebug = none := by kernel_rfl
theorem laidOut : laidOutB Try.prog = true := by kernel_rfl

theorem walk (v0 : Value) (ps0 : List Les) (w : World) (w0 : RowsR 7 lesC w v0 ps0) (u0 : ∀ p ∈ ps0, lesOk p) :
    Calls Try.prog 11 #[v0] w fun e w' => e = .returned (.bool true) ∧ Below w.heap.size w w' := by
  by_cases ho : okLs ps0
  · obtain ⟨h1, h2⟩ := hoL_len ps0 21
    have h3 := offs_boundL 2 (hoL ps0 21) (hoL ps0 21).length (fun ys hy => by have := h2 ys hy; omega)
    exact lawTeacherHours v0 ps0 w w0 (hoL ps0 21) (by omega) true (fun _ s w h => (specHours_ok s ps0 w h ho).mono fun e w' ⟨⟨sq, vs, he, hx⟩, hb⟩ => ⟨⟨sq, he, hx.reads⟩, hb⟩) (fun _ s w h => implHours_ok s ps0 w h ho)
  · exact lawTeacherHours v0 ps0 w w0 [] (by simp [offs]) false (fun _ s w h => (specHours_no s ps0 w h ho).mono fun e w' ⟨⟨sq, vs, he, hx⟩, hb⟩ => ⟨⟨sq, he, hx.reads⟩, hb⟩) (fun _ s w h => implHours_no s ps0 w h ho)

set_option maxRecDepth 100000 in
theorem lifted (os : Os) (started : os.Started) (H : Type) (enc : TypeId × Value → H) :
    ReturnsInHanded {} Try.checked os 11 .any (Rows.fnExactTeacherHoursSpec.pre6 enc Try.prog Try.f11 Rows.fnExactTeacherHoursRow.domain false) (Rows.fnExactTeacherHoursSpec.post enc Try.prog Try.f11 false true false false) := by
  refine returnsInHanded_of_change (C := Try.checked) own started (by kernel_rfl) Try.func11
    (ChangeSpec.witness6 (enc := enc) (C := Try.checked) false ⟨#[], #[.slice none 0 0], []⟩ 8 (by kernel_rfl) (by kernel_rfl) (by kernel_rfl) (by kernel_rfl)) ?_
  intro W base args ds gs before hval0 hW hcnd _
  have hval : ∀ (j : Nat) t v, Try.f11.params[j]? = some t → args[j]? = some v → Value.okWide Try.prog W .any base t v := hval0
  have hW' := hW
  obtain ⟨p, q, hA0, hV, rfl, hfz, hnd⟩ := hW
  have hA : DataW.TrodAll enc Try.prog W 0 (fun _ => true) true Try.f11.params.toList args.toList ds p := hA0
  rw [Try.params11] at hA hval
  obtain ⟨v0, vs0, d0, ds0, p0, q0, hargs, rfl, rfl, h0, r0⟩ := trodAll_cons hA
  obtain ⟨rfl, rfl, rfl⟩ := trodAll_nil r0
  obtain rfl : args = #[v0] := by cases args; simp_all
  obtain ⟨rfl, rfl⟩ := trodVars_none hV
  have k0 := h0
  have lt0 : ∀ x ∈ p0, x.block < W.heap.size := by obtain ⟨m, hm⟩ := k0; exact DataW.trod_lt m _ _ _ hm
  obtain ⟨a0, len0, cap0, rfl⟩ := okWide_slice Try.underlying53 (hval 0 53 v0 rfl rfl)
  obtain ⟨ps0, w0, u0⟩ : ∃ ps, RowsR 7 lesC W (.slice a0 len0 cap0) ps ∧ ∀ p ∈ ps, lesOk p := by
    obtain ⟨fuel, hf⟩ := h0
    exact less_open hf
  clear hA0 hval0
  refine (walk (.slice a0 len0 cap0) ps0 W w0 u0).mono fun e W' ⟨he, bel⟩ => ?_
  subst he
  exact ⟨_, rfl, _, _, _, [], _, [], hW', trodAll_mk1 (shut_bool Try.underlying4 _), (trodAll_cons_mk (Below.trod laidOut (by kernel_rfl) (of_decide_eq_true (by kernel_rfl)) k0 bel lt0) trodAll_mk0), rfl, bel.frame _, fun h => by cases h⟩

theorem proved : Rows.FnExactTeacherHoursSaid :=
  OpenClaim.holds_of_wide 11 Try.f11 rfl rfl rfl rfl rfl rfl rfl ⟨rfl, rfl, rfl, rfl, rfl⟩ rfl rfl rfl rfl rfl (by kernel_rfl) Try.func11 (by kernel_rfl)
    (of_decide_eq_true (by kernel_rfl)) (by unfold Func.isWrapper; first | (rw [if_pos (by decide +kernel)]; kernel_rfl) | (rw [if_neg (by decide +kernel)]; exact ⟨rfl, rfl⟩))
    (fun os started H enc _ => lifted os started H enc)
#print axioms proved
end Go.Proofs.Ytblbeoeklkcamaa.fnExactTeacherHours
