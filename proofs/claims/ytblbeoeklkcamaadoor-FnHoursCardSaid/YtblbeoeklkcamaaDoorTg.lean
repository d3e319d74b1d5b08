/- Lessons: the Ids of a day, the gaps. -/
import Derived.Test.YtblbeoeklkcamaaDoorTso
namespace Go.Proofs.YtblbeoeklkcamaaDoor
set_option linter.unusedVariables false
open Go.RowKit

theorem Tryd.infoInL : (Tryd.prog.info? 3).map (fun i => (i.zero, i.size, i.bytes)) = some (some (.int .i64 0), 1, 8) := by kernel_rfl
def idLs (ms : List Les) : List Int := ms.map fun x => x.id
theorem idLs_len (ms : List Les) : (idLs ms).length = ms.length := by simp [idLs]
theorem idLs_snoc (ms : List Les) (k : Nat) (h : k < ms.length) : idLs (ms.take (k + 1)) = idLs (ms.take k) ++ [ms[k].id] := by
  unfold idLs; rw [List.take_succ_eq_append_getElem h, List.map_append]; rfl
/-- What DayOfClass tells. -/
def DyF (ps : List Les) (c d : Int) (qs : List Int) (t : Bool) : Prop := ((okLs ps ∧ (1 ≤ c ∧ c ≤ 9) ∧ (0 ≤ d ∧ d ≤ 6)) ∧ qs = idLs (dayF ps c d) ∧ t = true) ∨ (¬ (okLs ps ∧ (1 ≤ c ∧ c ≤ 9) ∧ (0 ≤ d ∧ d ≤ 6)) ∧ qs = [] ∧ t = false)
theorem dyF_or (ps : List Les) (c d : Int) : ∃ qs t, DyF ps c d qs t := by
  by_cases h : okLs ps ∧ (1 ≤ c ∧ c ≤ 9) ∧ (0 ≤ d ∧ d ≤ 6)
  · exact ⟨_, _, .inl ⟨h, rfl, rfl⟩⟩
  · exact ⟨_, _, .inr ⟨h, rfl, rfl⟩⟩
theorem dyF_len {ps : List Les} {c d : Int} {qs : List Int} {t : Bool} (h : DyF ps c d qs t) : qs.length ≤ 12 := by
  rcases h with ⟨h1, rfl, _⟩ | ⟨_, rfl, _⟩
  · rw [idLs_len]; exact Nat.le_trans (dayF_len ps c d) (okLs_len h1.1)
  · simp
def mxI (a b : Int) : Int := if b < a then a else b
def gapAt (D : List Les) (i : Nat) : Int := (leD D (i + 1)).bgn - (leD D i).bgn - (leD D i).mins
def gpD (D : List Les) : Nat → Int → Int
  | 0, m => m
  | n + 1, m => mxI (gpD D n m) (gapAt D n)
def gpA (ps : List Les) (c : Int) : Nat → Int
  | 0 => 0
  | d + 1 => gpD (dayF ps c d) ((dayF ps c d).length - 1) (gpA ps c d)
/-- What LongestGap tells. -/
def GpF (ps : List Les) (c : Int) (g : Int) (t : Bool) : Prop := ((okLs ps ∧ (1 ≤ c ∧ c ≤ 9)) ∧ g = gpA ps c 7 ∧ t = true) ∨ (¬ (okLs ps ∧ (1 ≤ c ∧ c ≤ 9)) ∧ g = 0 ∧ t = false)
theorem gpF_or (ps : List Les) (c : Int) : ∃ g t, GpF ps c g t := by
  by_cases h : okLs ps ∧ (1 ≤ c ∧ c ≤ 9)
  · exact ⟨_, _, .inl ⟨h, rfl, rfl⟩⟩
  · exact ⟨_, _, .inr ⟨h, rfl, rfl⟩⟩
theorem day_ok {ps : List Les} (ho : okLs ps) (c d : Int) (i : Nat) (h : i < (dayF ps c d).length) : okLe (leD (dayF ps c d) i) := by
  rw [leD_at _ i h]
  have hm := dayF_mem (List.getElem_mem h)
  obtain ⟨j, hj, e⟩ := List.getElem_of_mem hm
  rw [← e]; exact okLs_at ho j hj
/-- A gap is a plain difference. -/
theorem gap_wrap {x y : Les} (hx : okLe x) (hy : okLe y) : IntKind.i64.wrap (x.bgn - y.bgn) = x.bgn - y.bgn ∧ IntKind.i64.wrap (x.bgn - y.bgn - y.mins) = x.bgn - y.bgn - y.mins ∧ IntKind.i64.wrap (x.bgn - endL y) = x.bgn - y.bgn - y.mins := by
  have h1 := hx.2.2.2.2.2.1
  have h2 := hy.2.2.2.2.2.1
  have h3 := (okTm_end hy.2.2.2.2.2).2
  rw [okLe_end hy, IntKind.wrap_i64, IntKind.wrap_i64, IntKind.wrap_i64]
  omega
theorem mxI_ge (a b : Int) : a ≤ mxI a b := by unfold mxI; split <;> omega
theorem gpD_ge (D : List Les) (m : Int) : ∀ n, m ≤ gpD D n m
  | 0 => Int.le_refl _
  | n + 1 => Int.le_trans (gpD_ge D m n) (mxI_ge _ _)
theorem gpA_ge (ps : List Les) (c : Int) : ∀ n, 0 ≤ gpA ps c n
  | 0 => Int.le_refl _
  | n + 1 => Int.le_trans (gpA_ge ps c n) (gpD_ge _ _ _)
end Go.Proofs.YtblbeoeklkcamaaDoor
