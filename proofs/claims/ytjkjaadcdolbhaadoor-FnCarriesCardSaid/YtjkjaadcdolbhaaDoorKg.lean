/- Parts laid as one: Dnum, Dnum2. -/
import Derived.Test.YtjkjaadcdolbhaaDoorDfrm
import Derived.Test.YtjkjaadcdolbhaaDoorKb
import Derived.Test.YtjkjaadcdolbhaaDoorOwn
/-! Dnum -/
namespace Go.Proofs.YtjkjaadcdolbhaaDoor
set_option linter.unusedVariables false
open Go.RowKit

end Go.Proofs.YtjkjaadcdolbhaaDoor

/-! Dnum2 -/
namespace Go.Proofs.YtjkjaadcdolbhaaDoor
set_option linter.unusedVariables false
open Go.RowKit

set_option maxRecDepth 100000 in
set_option maxHeartbeats 800000 in
theorem rodOf_any (cb : Nat) (cd : Value) (L : List UInt8) (n : Nat) (up lo : Int) (a : Option Addr) (cp K : Nat) (w : World) (hK : K ≤ 1000) (hn : n < 4611686018427380000) (hc : CurAt w cb cd n) (hr : CodeR w cb cd L) :
    Calls Tryd.prog 34 #[.pointer (some ⟨cb, 0, none⟩), .agg #[.int .i64 up, .int .i64 lo, .slice a K cp]] w fun e w' => (∃ z : Int, e = .returned (.int .i64 z)) ∧ CurAt w' cb cd (n + 4) ∧ w.grownBy w' (some cb) := by
  have hga := grown_alloc w (.cells #[.int .i64 up, .int .i64 lo, .slice a K cp] 26) none
  have q1 : IntKind.i64.wrap ((K : Int) + 1) = (K : Int) + 1 := by rw [IntKind.wrap_i64]; omega
  have HP := Lib.hid (pick_any cb cd L n ((K : Int) + 1) (w.alloc (.cells #[.int .i64 up, .int .i64 lo, .slice a K cp] 26)) (by omega) (by omega) (by omega) (hc.old hga) (hr.grown (grown_any hga)))
  have HGA := Lib.hid (grown_any (r := some cb) hga)
  have HR := Lib.hid hr
  clear hga hc hr
  go_enter Tryd.func34, Tryd.ntmps34
  go_wp2_with fail
  refine (HP.out).mono ?_
  rintro e w1 ⟨⟨r, rfl, r0, r1⟩, hc1, hg1⟩
  have HG1 := Lib.hid (grown_trans HGA.out hg1)
  have HP2 := Lib.hid (pick_any cb cd L (n + 2) 9 w1 (by omega) (by omega) (by omega) hc1 (HR.out.grown HG1.out))
  clear hc1 hg1
  go_wp2_with fail
  refine (HP2.out).mono ?_
  rintro e w2 ⟨⟨s, rfl, s0, s1⟩, hc2, hg2⟩
  have HG2 := Lib.hid (grown_trans HG1.out hg2)
  have HC2 := Lib.hid hc2
  clear hc2 hg2
  go_wp2_with fail
  go_ret
  exact ⟨⟨_, rfl⟩, HC2.out, HG2.out⟩
end Go.Proofs.YtjkjaadcdolbhaaDoor
