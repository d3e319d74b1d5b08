/- Parts laid as one: Mchange, Mmake, Mplay. -/
import Derived.Test.YtlfplnbmgmookaaKz
import Derived.Test.YtlfplnbmgmookaaKa
import Derived.Test.YtlfplnbmgmookaaOwn
import Derived.Test.YtlfplnbmgmookaaGood
import Derived.Deep.RegionLaw
/-! Mchange -/
namespace Go.Proofs.Ytlfplnbmgmookaa
set_option linter.unusedVariables false
open Go.RowKit

/-- What a bead of a move's part is worth on a frame of R rods. -/
def worthN (R : Nat) (m : Mv) : Int := (if m.part = 0 then 5 else 1) * 10 ^ (R - 1 - m.rod.toNat)
def chgI (R : Nat) (ms : List Mv) : Int := (ms.map fun m => m.amt * worthN R m).sum
theorem chg_snoc (R : Nat) (ms : List Mv) (k : Nat) (h : k < ms.length) : chgI R (ms.take (k + 1)) = chgI R (ms.take k) + ms[k].amt * worthN R ms[k] := by
  unfold chgI; rw [List.take_succ_eq_append_getElem h, List.map_append, List.sum_append]; simp
/-- The answer: s and t. -/
def ChF (ms : List Mv) (R : Int) (s : Int) (t : Bool) : Prop :=
  (okMs ms ∧ (1 ≤ R ∧ R ≤ 8) ∧ (∀ (k : Nat) (h : k < ms.length), ms[k].rod < R) ∧ s = chgI R.toNat ms ∧ t = true) ∨
  (¬ (okMs ms ∧ (1 ≤ R ∧ R ≤ 8) ∧ (∀ (k : Nat) (h : k < ms.length), ms[k].rod < R)) ∧ s = 0 ∧ t = false)
theorem chF_or (ms : List Mv) (R : Int) : ∃ s t, ChF ms R s t := by
  by_cases h : okMs ms ∧ (1 ≤ R ∧ R ≤ 8) ∧ (∀ (k : Nat) (h : k < ms.length), ms[k].rod < R)
  · exact ⟨_, true, .inl ⟨h.1, h.2.1, h.2.2, rfl, rfl⟩⟩
  · exact ⟨0, false, .inr ⟨h, rfl, rfl⟩⟩

end Go.Proofs.Ytlfplnbmgmookaa

/-! Mmake -/
namespace Go.Proofs.Ytlfplnbmgmookaa
set_option linter.unusedVariables false
open Go.RowKit

/-- The rod behind a move, the rods behind it. -/
def movR (r : Int × Int) (m : Mv) : Int × Int := if m.part = 0 then (r.1 + m.amt, r.2) else (r.1, r.2 + m.amt)
def movF (rs : List (Int × Int)) (m : Mv) : List (Int × Int) := rs.set m.rod.toNat (movR (rs.getD m.rod.toNat (0, 0)) m)
theorem movF_len (rs : List (Int × Int)) (m : Mv) : (movF rs m).length = rs.length := by simp [movF]
/-- A move of a good frame: the answer. -/
def MkF (up lo : Int) (rs : List (Int × Int)) (m : Mv) (fu fl : Int) (qs : List (Int × Int)) (t : Bool) : Prop :=
  (m.rod < rs.length ∧ goodF up lo (movF rs m) ∧ fu = up ∧ fl = lo ∧ qs = movF rs m ∧ t = true) ∨ (¬ (m.rod < rs.length ∧ goodF up lo (movF rs m)) ∧ fu = 0 ∧ fl = 0 ∧ qs = [] ∧ t = false)
theorem mkF_or (up lo : Int) (rs : List (Int × Int)) (m : Mv) : ∃ fu fl qs t, MkF up lo rs m fu fl qs t := by
  by_cases h : m.rod < rs.length ∧ goodF up lo (movF rs m)
  · exact ⟨up, lo, _, true, .inl ⟨h.1, h.2, rfl, rfl, rfl, rfl⟩⟩
  · exact ⟨0, 0, [], false, .inr ⟨h, rfl, rfl, rfl, rfl⟩⟩

/-- MoveBeads: the answer. -/
def MvF (up lo : Int) (rs : List (Int × Int)) (m : Mv) (fu fl : Int) (qs : List (Int × Int)) (t : Bool) : Prop :=
  (goodF up lo rs ∧ okMv m ∧ MkF up lo rs m fu fl qs t) ∨ (¬ (goodF up lo rs ∧ okMv m) ∧ fu = 0 ∧ fl = 0 ∧ qs = [] ∧ t = false)
theorem mvF_or (up lo : Int) (rs : List (Int × Int)) (m : Mv) : ∃ fu fl qs t, MvF up lo rs m fu fl qs t := by
  by_cases h : goodF up lo rs ∧ okMv m
  · obtain ⟨fu, fl, qs, t, hk⟩ := mkF_or up lo rs m
    exact ⟨fu, fl, qs, t, .inl ⟨h.1, h.2, hk⟩⟩
  · exact ⟨0, 0, [], false, .inr ⟨h, rfl, rfl, rfl, rfl⟩⟩
theorem mkF_len {up lo : Int} {rs : List (Int × Int)} {m : Mv} {fu fl : Int} {qs : List (Int × Int)} {t : Bool} (hg : goodF up lo rs) (h : MkF up lo rs m fu fl qs t) : qs.length ≤ 8 := by
  rcases h with ⟨_, _, _, _, rfl, _⟩ | ⟨_, _, _, rfl, _⟩
  · rw [movF_len]; exact hg.2.2.2.2
  · simp
theorem mvF_len {up lo : Int} {rs : List (Int × Int)} {m : Mv} {fu fl : Int} {qs : List (Int × Int)} {t : Bool} (h : MvF up lo rs m fu fl qs t) : qs.length ≤ 8 := by
  rcases h with ⟨hg, _, hk⟩ | ⟨_, _, _, rfl, _⟩
  · exact mkF_len hg hk
  · simp

end Go.Proofs.Ytlfplnbmgmookaa

/-! Mplay -/
namespace Go.Proofs.Ytlfplnbmgmookaa
set_option linter.unusedVariables false
open Go.RowKit

open Classical in
noncomputable def stepO (up lo : Int) (rs : List (Int × Int)) (m : Mv) : Option (List (Int × Int)) := if m.rod < rs.length ∧ goodF up lo (movF rs m) then some (movF rs m) else none
noncomputable def playO (up lo : Int) (rs : List (Int × Int)) (ms : List Mv) : Option (List (Int × Int)) := ms.foldl (fun o m => o.bind fun r => stepO up lo r m) (some rs)
theorem stepO_mk (up lo : Int) (rs : List (Int × Int)) (m : Mv) (fu fl : Int) (qs : List (Int × Int)) (t : Bool) (h : MkF up lo rs m fu fl qs t) : (t = true → fu = up ∧ fl = lo ∧ goodF up lo qs ∧ stepO up lo rs m = some qs) ∧ (t = false → fu = 0 ∧ fl = 0 ∧ qs = [] ∧ stepO up lo rs m = none) := by
  unfold stepO
  rcases h with ⟨h1, h2, rfl, rfl, rfl, rfl⟩ | ⟨h0, rfl, rfl, rfl, rfl⟩
  · exact ⟨fun _ => ⟨rfl, rfl, h2, by rw [if_pos ⟨h1, h2⟩]⟩, fun h => by simp at h⟩
  · exact ⟨fun h => by simp at h, fun _ => ⟨rfl, rfl, rfl, by rw [if_neg h0]⟩⟩
theorem playO_snoc (up lo : Int) (rs : List (Int × Int)) (ms : List Mv) (k : Nat) (h : k < ms.length) : playO up lo rs (ms.take (k + 1)) = (playO up lo rs (ms.take k)).bind fun r => stepO up lo r ms[k] := by
  unfold playO; rw [List.take_succ_eq_append_getElem h, List.foldl_append]; rfl
theorem play_none (up lo : Int) (ms : List Mv) : ms.foldl (fun o m => o.bind fun r => stepO up lo r m) none = none := by
  induction ms with
  | nil => rfl
  | cons m t ih => exact ih
theorem playO_none (up lo : Int) (rs : List (Int × Int)) (ms : List Mv) (k : Nat) (h : playO up lo rs (ms.take k) = none) : playO up lo rs ms = none := by
  have : playO up lo rs ms = (ms.drop k).foldl (fun o m => o.bind fun r => stepO up lo r m) (playO up lo rs (ms.take k)) := by
    unfold playO; rw [← List.foldl_append, List.take_append_drop]
  rw [this, h, play_none]
/-- PlayMoves: the answer. -/
def PlF (up lo : Int) (rs : List (Int × Int)) (ms : List Mv) (fu fl : Int) (qs : List (Int × Int)) (t : Bool) : Prop :=
  (goodF up lo rs ∧ okMs ms ∧ playO up lo rs ms = some qs ∧ goodF up lo qs ∧ fu = up ∧ fl = lo ∧ t = true) ∨ (¬ (goodF up lo rs ∧ okMs ms ∧ playO up lo rs ms ≠ none) ∧ fu = 0 ∧ fl = 0 ∧ qs = [] ∧ t = false)
theorem playO_good (up lo : Int) (rs : List (Int × Int)) (ms : List Mv) (hg : goodF up lo rs) : ∀ k, k ≤ ms.length → ∀ qs, playO up lo rs (ms.take k) = some qs → goodF up lo qs := by
  intro k
  induction k with
  | zero => intro _ qs h; unfold playO at h; simp at h; subst h; exact hg
  | succ k ih =>
    intro hk qs h
    rw [playO_snoc up lo rs ms k (by omega)] at h
    cases hp : playO up lo rs (ms.take k) with
    | none => rw [hp] at h; simp at h
    | some r =>
      rw [hp] at h
      simp only [Option.bind_some] at h
      unfold stepO at h
      split at h
      · injection h with h; subst h; rename_i hh; exact hh.2
      · simp at h
theorem plF_or (up lo : Int) (rs : List (Int × Int)) (ms : List Mv) : ∃ fu fl qs t, PlF up lo rs ms fu fl qs t := by
  by_cases h : goodF up lo rs ∧ okMs ms ∧ playO up lo rs ms ≠ none
  · cases hp : playO up lo rs ms with
    | none => exact absurd hp h.2.2
    | some qs => exact ⟨up, lo, qs, true, .inl ⟨h.1, h.2.1, hp, playO_good up lo rs ms h.1 ms.length (Nat.le_refl _) qs (by rwa [List.take_length]), rfl, rfl, rfl⟩⟩
  · exact ⟨0, 0, [], false, .inr ⟨h, rfl, rfl, rfl, rfl⟩⟩
theorem plF_len {up lo : Int} {rs : List (Int × Int)} {ms : List Mv} {fu fl : Int} {qs : List (Int × Int)} {t : Bool} (h : PlF up lo rs ms fu fl qs t) : qs.length ≤ 8 := by
  rcases h with ⟨_, _, _, h, _⟩ | ⟨_, _, _, rfl, _⟩
  · exact h.2.2.2.2
  · simp

theorem box3_set {w : World} {g : Nat} {a b c : Value} {T : TypeId} (h : w.heap[g]? = some (.cells #[a, b, c] T (0, 0))) (x y z : Value) :
    (((w.setCell ⟨g, 0, none⟩ x).setCell ⟨g, 1, none⟩ y).setCell ⟨g, 2, none⟩ z).heap[g]? = some (.cells #[x, y, z] T (0, 0)) := by
  have h1 := heap_setCell_same w g 0 _ _ x h
  have h2 := heap_setCell_same _ g 1 _ _ y h1
  have h3 := heap_setCell_same _ g 2 _ _ z h2
  simpa using h3

end Go.Proofs.Ytlfplnbmgmookaa
