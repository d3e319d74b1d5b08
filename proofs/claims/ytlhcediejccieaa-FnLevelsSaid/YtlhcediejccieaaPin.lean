/- The Ids of a class: the model's, the program's. -/
import Derived.Test.YtlhcediejccieaaPs1
import Derived.Test.YtlhcediejccieaaPi3
import Derived.Test.YtlhcediejccieaaInts
namespace Go.Proofs.Ytlhcediejccieaa
set_option linter.unusedVariables false
open Go.RowKit

theorem Try.infoInt : (Try.prog.info? 3).map (fun i => (i.zero, i.size, i.bytes)) = some (some (.int .i64 0), 1, 8) := by kernel_rfl
/-- The pupils of a class, their Ids. -/
def memC (c : Int) (ps : List Pu) : List Pu := ps.filter fun p => decide (p.cls = c)
def idL (ms : List Pu) : List Int := ms.map Pu.id
theorem idL_len (ms : List Pu) : (idL ms).length = ms.length := by unfold idL; simp
theorem idL_snoc (ms : List Pu) (k : Nat) (h : k < ms.length) : idL (ms.take (k + 1)) = idL (ms.take k) ++ [ms[k].id] := by unfold idL; rw [List.take_succ_eq_append_getElem h, List.map_append]; rfl
def idsC (c : Int) (ps : List Pu) : List Int := idL (memC c ps)
theorem memC_yes (c : Int) (ps : List Pu) (k : Nat) (h : k < ps.length) (hc : ps[k].cls = c) : memC c (ps.take (k + 1)) = memC c (ps.take k) ++ [ps[k]] := by
  unfold memC; rw [List.take_succ_eq_append_getElem h, List.filter_append]; simp [hc]
theorem memC_no (c : Int) (ps : List Pu) (k : Nat) (h : k < ps.length) (hc : ¬ ps[k].cls = c) : memC c (ps.take (k + 1)) = memC c (ps.take k) := by
  unfold memC; rw [List.take_succ_eq_append_getElem h, List.filter_append]; simp [hc]
theorem memC_len (c : Int) (ps : List Pu) : (memC c ps).length ≤ ps.length := List.length_filter_le _ _
theorem idsC_yes (c : Int) (ps : List Pu) (k : Nat) (h : k < ps.length) (hc : ps[k].cls = c) : idsC c (ps.take (k + 1)) = idsC c (ps.take k) ++ [ps[k].id] := by
  unfold idsC idL; rw [memC_yes c ps k h hc]; simp
theorem idsC_no (c : Int) (ps : List Pu) (k : Nat) (h : k < ps.length) (hc : ¬ ps[k].cls = c) : idsC c (ps.take (k + 1)) = idsC c (ps.take k) := by
  unfold idsC; rw [memC_no c ps k h hc]
theorem idsC_len (c : Int) (ps : List Pu) : (idsC c ps).length ≤ ps.length := by unfold idsC; rw [idL_len]; exact memC_len c ps
theorem inC_one (x : Int) : ∀ u ∈ inC x, u.oneCell' = true := by intro u hu; simp [inC] at hu; rw [hu]; rfl
set_option maxRecDepth 100000 in
set_option maxHeartbeats 800000 in
theorem specInClass_bad (v : Value) (ps : List Pu) (c : Int) (w : World) (h : RowsR 5 puC w v ps) (hs : ∀ p ∈ ps, p.name.size ≤ maxLen) (hl : ps.length ≤ 1048576) (ho : ¬ okL ps) :
    Calls Try.prog 20 #[v, .int .i64 c] w fun e w' => (∃ sq, e = .returned (.tuple #[sq, .bool false]) ∧ w'.ownsRow w.heap.size 3 1 sq ([] : List Int).length (flatC inC [])) ∧ Below w.heap.size w w' := by
  have HC := Lib.hid (fun w' (hb : Below w.heap.size w w') => l3Good_no v ps w' (h.below hb (Nat.le_refl _)) hs hl ho)
  clear h hs ho
  go_enter Try.func20, Try.ntmps20
  go_wp2_with fail
  refine (HC.out _ ((Below.refl _ _).alloc (Nat.le_refl _) _)).mono ?_
  rintro e w2 ⟨rfl, hb2⟩
  have HO := Lib.hid (own_below (World.ownsRow_made (base := w.heap.size) (e := 3) (size := 1) w #[] 0 (Nat.le_refl _) (Nat.zero_le _) (by simp)) hb2)
  have HB : Hid (Below w.heap.size w w2) := Lib.hid (((Below.refl _ _).alloc (Nat.le_refl _) _).trans (hb2.mono (by simp)))
  clear hb2
  go_wp2_with fail
  go_ret2
  exact ⟨⟨_, rfl, HO.out⟩, HB.out⟩
set_option maxRecDepth 100000 in
set_option maxHeartbeats 800000 in
theorem specInClass_out (v : Value) (ps : List Pu) (c : Int) (w : World) (h : RowsR 5 puC w v ps) (hs : ∀ p ∈ ps, p.name.size ≤ maxLen) (ho : okL ps) (hc : ¬ (0 ≤ c ∧ c ≤ 9)) :
    Calls Try.prog 20 #[v, .int .i64 c] w fun e w' => (∃ sq, e = .returned (.tuple #[sq, .bool false]) ∧ w'.ownsRow w.heap.size 3 1 sq ([] : List Int).length (flatC inC [])) ∧ Below w.heap.size w w' := by
  have hl := okL_len ho
  have HC := Lib.hid (fun w' (hb : Below w.heap.size w w') => l3Good_yes v ps w' (h.below hb (Nat.le_refl _)) hs (by omega) ho)
  have HN := Lib.hid hc
  clear h hs ho hc
  go_enter Try.func20, Try.ntmps20
  go_wp2_with fail
  refine (HC.out _ ((Below.refl _ _).alloc (Nat.le_refl _) _)).mono ?_
  rintro e w2 ⟨rfl, hb2⟩
  have HO := Lib.hid (own_below (World.ownsRow_made (base := w.heap.size) (e := 3) (size := 1) w #[] 0 (Nat.le_refl _) (Nat.zero_le _) (by simp)) hb2)
  have HB : Hid (Below w.heap.size w w2) := Lib.hid (((Below.refl _ _).alloc (Nat.le_refl _) _).trans (hb2.mono (by simp)))
  clear hb2
  go_wp2_with fail
  refine (l1In_noq _ _ _ _ HN.out).mono ?_
  rintro e w' ⟨rfl, hw⟩
  subst w'
  go_wp2_with fail
  go_ret2
  exact ⟨⟨_, rfl, HO.out⟩, HB.out⟩
set_option maxRecDepth 100000 in
set_option maxHeartbeats 1600000 in
theorem specInClass_ok (v : Value) (ps : List Pu) (c : Int) (w : World) (h : RowsR 5 puC w v ps) (hs : ∀ p ∈ ps, p.name.size ≤ maxLen) (ho : okL ps) (hc : 0 ≤ c ∧ c ≤ 9) :
    Calls Try.prog 20 #[v, .int .i64 c] w fun e w' => (∃ sq, e = .returned (.tuple #[sq, .bool true]) ∧ w'.ownsRow w.heap.size 3 1 sq (idsC c ps).length (flatC inC (idsC c ps))) ∧ Below w.heap.size w w' := by
  obtain ⟨i0, hi, hz0, hz1, hz2⟩ := info_parts Try.infoInt
  have hl := okL_len ho
  have HC := Lib.hid (fun w' (hb : Below w.heap.size w w') => l3Good_yes v ps w' (h.below hb (Nat.le_refl _)) hs (by omega) ho)
  obtain ⟨a, cp, rfl⟩ := h.form
  have R1 := Lib.hid h.at
  clear h hs ho
  go_enter Try.func20, Try.ntmps20
  go_wp2_with fail
  refine (HC.out _ ((Below.refl _ _).alloc (Nat.le_refl _) _)).mono ?_
  rintro e w2 ⟨rfl, hb2⟩
  have HO := Lib.hid (own_below (World.ownsRow_made (base := w.heap.size) (e := 3) (size := 1) w #[] 0 (Nat.le_refl _) (Nat.zero_le _) (by simp)) hb2)
  have HB : Hid (Below w.heap.size w w2) := Lib.hid (((Below.refl _ _).alloc (Nat.le_refl _) _).trans (hb2.mono (by simp)))
  clear hb2
  go_wp2_with fail
  refine (l1In_yesq _ _ _ _ hc).mono ?_
  rintro e w' ⟨rfl, hw⟩
  subst w'
  clear hc
  go_wp2_with fail
  go_loopw [6, 7] (fun out i wr => ∃ k : Nat, k ≤ ps.length ∧ i = .int .i64 k ∧ wr.ownsRow w.heap.size 3 1 out (idsC c (ps.take k)).length (flatC inC (idsC c (ps.take k))) ∧ Below w.heap.size w wr) (fun _ i _ => ps.length - (intOf i).toNat)
  case atStart => exact ⟨0, Nat.zero_le _, rfl, HO.out, HB.out⟩
  case round =>
    obtain ⟨k, hk, rfl, hown, hb⟩ := hrel
    have HB2 := Lib.hid hb
    have HO2 := Lib.hid hown
    have hidl := idsC_len c (ps.take k)
    have htl : (ps.take k).length ≤ k := List.length_take_le _ _
    by_cases hlt : k < ps.length
    · have z1 : (0 : Int) ≤ (k : Int) := by omega
      have z2 : (k : Int) < (ps.length : Int) := by omega
      obtain ⟨b1, o1, rfl, l1, k1⟩ := R1.out _ hb k hlt
      have p0 : wr.cell? ⟨b1, o1 + k * 5, none⟩ = some (.int .i64 ps[k].id) := k1 0 (by omega)
      have p3 : wr.cell? ⟨b1, o1 + k * 5 + 3, none⟩ = some (.int .i64 ps[k].cls) := k1 3 (by omega)
      clear hb hown k1
      by_cases hq : ps[k].cls = c
      · have HE := Lib.hid (idsC_yes c ps k hlt hq)
        rw [hq] at p3
        have hcc : (c == c) = true := by simp
        clear hq
        go_wp2_with (at_builtin; refine wpList_append_own _ rfl _ _ 27 rfl w.heap.size 3 i0 (.int .i64 0) 1 8 Try.underlying27 hi hz0 hz1 hz2 rfl (by decide) _ _ _ rfl (HO2.out.alloc _) ⟨wr.heap.size, 0, none⟩ 1 1 [.int .i64 ps[k].id] rfl rfl ?c1 ?c2 ?c3 ?c4 ?c5 ?_)
        case c1 => exact one_new _ _ _
        case c2 => intro u hu; rw [List.mem_singleton.1 hu]; rfl
        case c3 => unfold maxLen; omega
        case c4 => omega
        case c5 => have := HB2.out.size; simp; omega
        intro v' w3 hown3 hgrow3 _
        have HO3 := Lib.hid hown3
        have HG3 := Lib.hid hgrow3
        clear hown3 hgrow3
        go_wp2_with fail
        go_roundw
        case rel =>
          refine ⟨k + 1, by omega, by go_num, ?_, (HB2.out.alloc HB2.out.size _).grown HG3.out (by have := HB2.out.size; simp; omega) (fun q hq => (HO2.out.lt q hq).1)⟩
          rw [HE.out, flatC_app]
          have := HO3.out
          simpa [flatC, inC] using this
        case measure => simp [intOf]; omega
      · have HE := Lib.hid (idsC_no c ps k hlt hq)
        have hcc : (ps[k].cls == c) = false := by rw [beq_eq_false_iff_ne]; exact hq
        clear hq
        go_wp2_with fail
        go_roundw
        case rel => exact ⟨k + 1, by omega, by go_num, by rw [HE.out]; exact HO2.out, HB2.out⟩
        case measure => simp [intOf]; omega
    · have HE : Hid (idsC c (ps.take k) = idsC c ps) := Lib.hid (by rw [List.take_of_length_le (by omega)])
      clear hb hown
      go_wp2_with fail
      go_ret2
      exact ⟨⟨_, rfl, HE.out ▸ HO2.out⟩, HB2.out⟩
end Go.Proofs.Ytlhcediejccieaa
