/- Helpers of the laws FnAdding and FnTaking. -/
import Derived.Test.YtjkjaadcdolbhaaKm
import Derived.Test.YtjkjaadcdolbhaaKt
import Derived.Test.YtjkjaadcdolbhaaKj
import Derived.Test.YtjkjaadcdolbhaaMadout
import Derived.Test.YtjkjaadcdolbhaaAdout
import Derived.Test.YtjkjaadcdolbhaaKh
namespace Go.Proofs.Ytjkjaadcdolbhaa
set_option linter.unusedVariables false
open Go.RowKit
set_option linter.unusedSimpArgs false

def MvB (f : Nat) (av : Array Value) (w : World) (ms : List Mv) (b : Bool) : Prop :=
  Calls Try.prog f av w fun e w' => (∃ v, e = .returned (.tuple #[v, .bool b]) ∧ RowsR 3 mvC w' v ms) ∧ Below w.heap.size w w'
theorem ofOwnM {f : Nat} {av : Array Value} {w : World} {ms : List Mv} {b : Bool} (h : Calls Try.prog f av w fun e w' => (∃ v, e = .returned (.tuple #[v, .bool b]) ∧ w'.ownsRow w.heap.size 75 3 v ms.length (flatC mvC ms)) ∧ Below w.heap.size w w') : MvB f av w ms b :=
  h.mono fun _ _ ⟨⟨v, he, ho⟩, hb⟩ => ⟨⟨v, he, RowsR.of_own mvC_len ho⟩, hb⟩
def StB (f : Nat) (av : Array Value) (w : World) : Prop := Calls Try.prog f av w fun e w' => e = .returned (.tuple #[.bool true, .bool true]) ∧ Below w.heap.size w w'
theorem play_is {up lo : Int} {rs qs : List (Int × Int)} {ms : List Mv} (hg : goodF up lo rs) (hm : okMs ms) (hp : playO up lo rs ms = some qs) (hq : goodF up lo qs) (w : World) (sv mv : Value) (h1 : RodsR w sv rs) (h2 : RowsR 3 mvC w mv ms) : FrB 20 #[.agg #[.int .i64 up, .int .i64 lo, sv], mv] w up lo qs true :=
  ofOwn (implPlay_any up lo sv rs mv ms w h1 h2 up lo qs true (.inl ⟨hg, hm, hp, hq, rfl, rfl, rfl⟩))
theorem std_is {up lo : Int} {rs : List (Int × Int)} (hg : goodF up lo rs) (hs : stdF rs) (w : World) (sv : Value) (h : RodsR w sv rs) : StB 42 #[.agg #[.int .i64 up, .int .i64 lo, sv]] w := by
  obtain ⟨b, hb, hc⟩ := implIsStandard_good up lo sv rs w h hg
  have e : b = true := hb.2 (stdF_std hs)
  subst e
  exact hc

end Go.Proofs.Ytjkjaadcdolbhaa
