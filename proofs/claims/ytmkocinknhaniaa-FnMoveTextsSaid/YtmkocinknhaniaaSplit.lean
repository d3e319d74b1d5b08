/- The reference model's split returns a new slice whose elements are the pieces between the separating bytes, in order. -/
import Derived.Test.YtmkocinknhaniaaKa
import Derived.OwnWalk
import Derived.Laws.AppendOwn
import Derived.Lib.Strings
namespace Go.Proofs.Ytmkocinknhaniaa
set_option linter.unusedVariables false
open Go.RowKit

/-- The pieces of a list of bytes between the bytes c. -/
def spl (c : UInt8) : List UInt8 → List (List UInt8)
  | [] => [[]]
  | x :: r => if x = c then [] :: spl c r else match spl c r with
    | [] => [[x]]
    | p :: ps => (x :: p) :: ps
theorem spl_none (c : UInt8) : ∀ l : List UInt8, c ∉ l → spl c l = [l]
  | [], _ => rfl
  | x :: r, h => by
    have h1 : x ≠ c := fun e => h (by simp [e])
    have h2 : c ∉ r := fun e => h (by simp [e])
    rw [spl, if_neg h1, spl_none c r h2]
theorem spl_hit (c : UInt8) (r : List UInt8) : ∀ l : List UInt8, c ∉ l → spl c (l ++ c :: r) = l :: spl c r
  | [], _ => by simp [spl]
  | x :: l, h => by
    have h1 : x ≠ c := fun e => h (by simp [e])
    have h2 : c ∉ l := fun e => h (by simp [e])
    rw [List.cons_append, spl, if_neg h1, spl_hit c r l h2]
theorem spl_ne (c : UInt8) (l : List UInt8) : spl c l ≠ [] := by
  cases l with
  | nil => simp [spl]
  | cons x r =>
    rw [spl]
    split
    · simp
    · split <;> simp
/-- A piece as a value. -/
def strV (l : List UInt8) : Value := .string ⟨l.toArray⟩
theorem strV_one (l : List UInt8) : (strV l).oneCell' = true := rfl
theorem ext_strV (s : ByteArray) (j k : Nat) : Value.string (s.extract j k) = strV ((s.data.toList.drop j).take (k - j)) := by
  unfold strV; congr 1
  apply ByteArray.ext
  apply Array.ext'
  simp

/-- What holds after k bytes: the pieces found, where the open piece begins. -/
def SplAt (L : List UInt8) (c : UInt8) (P : List (List UInt8)) (j k : Nat) : Prop :=
  spl c L = P ++ spl c (L.drop j) ∧ c ∉ (L.drop j).take (k - j) ∧ j ≤ k ∧ P.length ≤ j
theorem splAt_start (L : List UInt8) (c : UInt8) : SplAt L c [] 0 0 := ⟨by simp, by simp, Nat.le_refl _, Nat.le_refl _⟩
theorem drop_take_snoc (L : List UInt8) (j k : Nat) (hj : j ≤ k) (h : k < L.length) : (L.drop j).take (k + 1 - j) = (L.drop j).take (k - j) ++ [L[k]] := by
  have e : k + 1 - j = (k - j) + 1 := by omega
  rw [e, List.take_succ_eq_append_getElem (by rw [List.length_drop]; omega)]
  congr 2
  rw [List.getElem_drop]; congr 1; omega
theorem splAt_miss {L : List UInt8} {c : UInt8} {P : List (List UInt8)} {j k : Nat} (h : SplAt L c P j k) (hk : k < L.length) (hne : L[k] ≠ c) : SplAt L c P j (k + 1) := by
  obtain ⟨h1, h2, h3, h4⟩ := h
  refine ⟨h1, ?_, by omega, h4⟩
  rw [drop_take_snoc L j k h3 hk]
  intro hm
  rcases List.mem_append.1 hm with hm | hm
  · exact h2 hm
  · exact hne (List.mem_singleton.1 hm).symm
theorem splAt_hit {L : List UInt8} {c : UInt8} {P : List (List UInt8)} {j k : Nat} (h : SplAt L c P j k) (hk : k < L.length) (he : L[k] = c) : SplAt L c (P ++ [(L.drop j).take (k - j)]) (k + 1) (k + 1) := by
  obtain ⟨h1, h2, h3, h4⟩ := h
  refine ⟨?_, by simp, Nat.le_refl _, by simp; omega⟩
  have e : L.drop j = (L.drop j).take (k - j) ++ c :: L.drop (k + 1) := by
    conv => lhs; rw [← List.take_append_drop (k - j) (L.drop j)]
    congr 1
    rw [List.drop_drop, show j + (k - j) = k by omega, List.drop_eq_getElem_cons hk, he]
  rw [h1, List.append_assoc]
  congr 1
  conv => lhs; rw [e]
  rw [spl_hit c _ _ h2]
  rfl
theorem splAt_end {L : List UInt8} {c : UInt8} {P : List (List UInt8)} {j k : Nat} (h : SplAt L c P j k) (hk : L.length ≤ k) : spl c L = P ++ [L.drop j] := by
  obtain ⟨h1, h2, h3, h4⟩ := h
  rw [h1, spl_none]
  rwa [List.take_of_length_le (by rw [List.length_drop]; omega)] at h2

theorem Try.infoStr : (Try.prog.info? 9).map (fun i => (i.zero, i.size, i.bytes)) = some (some (.string ⟨#[]⟩), 1, 16) := by kernel_rfl

/-- What the loop of the split keeps. -/
def SplRel (s : ByteArray) (c : UInt8) (B : Nat) (w : World) (out fr i : Value) (wr : World) : Prop :=
  ∃ (P : List (List UInt8)) (j k : Nat), k ≤ s.size ∧ i = .int .i64 k ∧ fr = .int .i64 j ∧ SplAt s.data.toList c P j k ∧ wr.ownsRow B 9 1 out P.length (P.map strV) ∧ Below B w wr

set_option maxRecDepth 100000 in
set_option maxHeartbeats 800000 in
theorem l1Split_any (s : ByteArray) (c : UInt8) (w : World) (hs : s.size ≤ 1048576) :
    Calls Try.prog 33 #[.string s, .int .u8 (c.toNat : Int)] w fun e w' => ∃ v, e = .returned v ∧ w'.ownsRow w.heap.size 9 1 v (spl c s.data.toList).length ((spl c s.data.toList).map strV) ∧ Below w.heap.size w w' := by
  obtain ⟨i0, hi, hz0, hz1, hz2⟩ := info_parts Try.infoStr
  have hL : s.data.toList.length = s.size := by simp
  go_enter Try.func33, Try.ntmps33
  go_wp2
  go_loopw [5, 6, 7] (fun out fr i wr => SplRel s c w.heap.size w out fr i wr) (fun _ _ i _ => s.size - (intOf i).toNat)
  case atStart => exact ⟨[], 0, 0, Nat.zero_le _, rfl, rfl, splAt_start _ _, World.ownsRow_made _ _ _ (Nat.le_refl _) (by decide) rfl, (Below.refl _ _).alloc (Nat.le_refl _) _⟩
  case round =>
    obtain ⟨P, j, k, hk, rfl, rfl, hA, hown, hb⟩ := hrel
    have hjk : j ≤ k := hA.2.2.1
    have hPj : P.length ≤ j := hA.2.2.2
    have hsz : w.heap.size ≤ wr.heap.size := hb.size
    by_cases hlt : k < s.size
    · by_cases he : s[k] = c
      · have hne : ((s[k].toNat : Int) == (c.toNat : Int)) = true := by rw [he]; simp
        have HA := Lib.hid (splAt_hit hA (by omega) he)
        have HO := Lib.hid hown
        clear he hA hown
        go_wp2_with (at_builtin; refine wpList_append_own _ rfl _ _ 56 rfl w.heap.size 9 i0 (.string ⟨#[]⟩) 1 16 Try.underlying56 hi hz0 hz1 hz2 rfl (by decide) _ _ _ rfl (HO.out.alloc _) ⟨wr.heap.size, 0, none⟩ 1 1 [.string (s.extract j k)] rfl rfl ?c1 ?c2 ?c3 ?c4 ?c5 ?_)
        case c1 => exact one_new _ _ _
        case c2 => intro u hu; rw [List.mem_singleton.1 hu]; rfl
        case c3 => unfold maxLen; omega
        case c4 => omega
        case c5 => simp; omega
        intro v' w1 hown1 hgrow _
        have HO1 := Lib.hid hown1
        have HG := Lib.hid hgrow
        clear hown1 hgrow
        go_wp2
        go_roundw
        case rel =>
          refine ⟨P ++ [(s.data.toList.drop j).take (k - j)], k + 1, k + 1, by omega, by go_num, by go_num, HA.out, ?_, ?_⟩
          · have := HO1.out
            rw [ext_strV] at this
            simpa using this
          · exact (hb.alloc hsz _).grown HG.out (by simp; omega) (fun q hq => (HO.out.lt q hq).1)
        case measure => simp [intOf]; omega
      · have hne : ((s[k].toNat : Int) == (c.toNat : Int)) = false := by
          rw [beq_eq_false_iff_ne]
          intro e
          exact he (UInt8.toNat_inj.1 (by omega))
        have HA := Lib.hid (splAt_miss hA (by omega) he)
        have HO := Lib.hid hown
        clear he hA hown
        go_wp2
        go_roundw
        case rel => exact ⟨P, j, k + 1, by omega, by go_num, rfl, HA.out, HO.out, hb⟩
        case measure => simp [intOf]; omega
    · have HE : Hid (spl c s.data.toList = P ++ [s.data.toList.drop j]) := Lib.hid (splAt_end hA (by omega))
      have HO := Lib.hid hown
      clear hA hown
      go_wp2_with (at_builtin; refine wpList_append_own _ rfl _ _ 56 rfl w.heap.size 9 i0 (.string ⟨#[]⟩) 1 16 Try.underlying56 hi hz0 hz1 hz2 rfl (by decide) _ _ _ rfl (HO.out.alloc _) ⟨wr.heap.size, 0, none⟩ 1 1 [.string (s.extract j s.size)] rfl rfl ?c1 ?c2 ?c3 ?c4 ?c5 ?_)
      case c1 => exact one_new _ _ _
      case c2 => intro u hu; rw [List.mem_singleton.1 hu]; rfl
      case c3 => unfold maxLen; omega
      case c4 => omega
      case c5 => simp; omega
      intro v' w1 hown1 hgrow _
      have HO1 := Lib.hid hown1
      have HG := Lib.hid hgrow
      clear hown1 hgrow
      go_wp2
      go_ret
      refine ⟨_, rfl, ?_, ?_⟩
      · have := HO1.out
        rw [ext_strV, List.take_of_length_le (by rw [List.length_drop]; omega)] at this
        rw [HE.out]
        simpa using this
      · exact (hb.alloc hsz _).grown HG.out (by simp; omega) (fun q hq => (HO.out.lt q hq).1)
end Go.Proofs.Ytmkocinknhaniaa
