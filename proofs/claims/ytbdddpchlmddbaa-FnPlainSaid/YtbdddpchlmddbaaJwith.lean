/- The program's CarryAt and BorrowAt. -/
import Derived.Test.YtbdddpchlmddbaaJcarry
import Derived.Test.YtbdddpchlmddbaaIlvb
namespace Go.Proofs.Ytbdddpchlmddbaa
set_option linter.unusedVariables false
open Go.RowKit

set_option maxRecDepth 100000 in
set_option maxHeartbeats 800000 in
theorem carry_out (g cap : Nat) (ps : List Int) (p : Nat) (t : Int) (w : World) (hl : ps.length ≤ 12) (hp : ps.length = p + 1) :
    Calls Try.prog 25 #[.slice (some ⟨g, 0, none⟩) ps.length cap, .int .i64 p, .int .i64 t] w fun e w' => e = .returned (.bool false) ∧ w' = w := by
  have w4' : IntKind.i64.wrap ((p : Int) + 1) = (ps.length : Int) := by rw [IntKind.wrap_i64]; omega
  clear hp
  go_enter Try.func25, Try.ntmps25
  go_wp2_with fail
  go_ret
  exact ⟨rfl, rfl⟩

/-- The answer of carries from a line or a space, by places. -/
def WcF (t : Int) (ls ss : List Int) (p : Nat) (qs qt : List Int) (r : Bool) : Prop :=
  ((p + 1 < (ilv ls ss).length ∧ ctr (cyP p t (ilv ls ss))) ∧ qs = evs (cyP p t (ilv ls ss)) ∧ qt = ods (cyP p t (ilv ls ss)) ∧ r = true) ∨
  (¬ (p + 1 < (ilv ls ss).length ∧ ctr (cyP p t (ilv ls ss))) ∧ qs = [] ∧ qt = [] ∧ r = false)
/-- A carry by places is one of the model's. -/
theorem wc_of_car (t : Int) (ls ss : List Int) (line : Bool) (k p : Nat) (hg : okB ls ss) (hkl : k < ls.length) (hp : p = if line then 2 * k else 2 * k + 1) (qs qt : List Int) (r : Bool) (hk : CarF t ls ss line (k : Int) qs qt r) : WcF t ls ss p qs qt r := by
  have hl := ilv_len ls ss
  have hs := hg.2.1
  have hn := hg.1
  unfold CarF at hk
  rw [Int.toNat_natCast] at hk
  have key : (p + 1 < (ilv ls ss).length ↔ plcB line (k : Int) ls) ∧ (p + 1 < (ilv ls ss).length → cyP p t (ilv ls ss) = ilv (mvL line k t ls) (mvS line k t ss)) := by
    cases line with
    | true =>
      have hp2 : p = 2 * k := by simpa using hp
      subst hp2
      refine ⟨⟨fun _ => ⟨by omega, by simp; omega⟩, fun _ => by omega⟩, fun _ => cyP_line ls ss hs k hkl t⟩
    | false =>
      have hp2 : p = 2 * k + 1 := by simpa using hp
      subst hp2
      refine ⟨⟨fun h => ⟨by omega, by simp; omega⟩, fun h => by have := h.2; simp at this; omega⟩, fun h => cyP_space ls ss hs k (by omega) t⟩
  have ok2 : p + 1 < (ilv ls ss).length → (okB (mvL line k t ls) (mvS line k t ss) ↔ ctr (cyP p t (ilv ls ss))) := fun h => by
    rw [key.2 h, okB_ilv, mvL_len, mvS_len]
    exact ⟨fun e => e.2, fun e => ⟨⟨hn, hs⟩, e⟩⟩
  rcases hk with ⟨⟨_, h2⟩, h3, rfl, rfl, rfl⟩ | ⟨h1, h2⟩
  · have h4 := key.1.2 h2
    refine .inl ⟨⟨h4, (ok2 h4).1 h3⟩, ?_, ?_, rfl⟩
    · rw [key.2 h4, evs_ilv]
    · rw [key.2 h4, ods_ilv _ _ (by rw [mvL_len, mvS_len]; exact hs)]
  · exact .inr ⟨fun h => h1 ⟨⟨hg, key.1.1 h.1⟩, (ok2 h.1).2 h.2⟩, h2⟩
end Go.Proofs.Ytbdddpchlmddbaa
