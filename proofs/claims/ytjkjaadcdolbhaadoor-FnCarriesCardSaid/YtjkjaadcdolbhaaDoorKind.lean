/- KindOfAdd of the model and of the program. -/
import Derived.Test.YtjkjaadcdolbhaaDoorKx
import Derived.Test.YtjkjaadcdolbhaaDoorAdk
import Derived.Test.YtjkjaadcdolbhaaDoorTabn
namespace Go.Proofs.YtjkjaadcdolbhaaDoor
set_option linter.unusedVariables false
open Go.RowKit

def okK (v d : Int) : Prop := (0 ≤ v ∧ v ≤ 9) ∧ (1 ≤ d ∧ d ≤ 9)
set_option maxRecDepth 100000 in
set_option maxHeartbeats 1600000 in
theorem l6Names_any (j : Nat) (hj : j < 4) (w : World) : Calls Tryd.prog 42 #[.int .i64 j] w fun e w' => e = .returned (.string (nameA j)) ∧ Below w.heap.size w w' := by
  rcases (by omega : j = 0 ∨ j = 1 ∨ j = 2 ∨ j = 3) with rfl | rfl | rfl | rfl
  · go_enter Tryd.func42, Tryd.ntmps42
    go_wp2_with fail
    go_ret
    exact ⟨rfl, (Below.refl _ _).alloc (Nat.le_refl _) _⟩
  · go_enter Tryd.func42, Tryd.ntmps42
    go_wp2_with fail
    go_ret
    exact ⟨rfl, (Below.refl _ _).alloc (Nat.le_refl _) _⟩
  · go_enter Tryd.func42, Tryd.ntmps42
    go_wp2_with fail
    go_ret
    exact ⟨rfl, (Below.refl _ _).alloc (Nat.le_refl _) _⟩
  · go_enter Tryd.func42, Tryd.ntmps42
    go_wp2_with fail
    go_ret
    exact ⟨rfl, (Below.refl _ _).alloc (Nat.le_refl _) _⟩
set_option maxRecDepth 100000 in
set_option maxHeartbeats 1600000 in
theorem speKind_yes (v d : Int) (w : World) (h : okK v d) : Calls Tryd.prog 21 #[.int .i64 v, .int .i64 d] w fun e w' => e = .returned (.tuple #[.string (nameA (kindA v d)), .bool true]) ∧ Below w.heap.size w w' := by
  obtain ⟨hv, hd⟩ := h
  have h1 := inB_yes hv.1 hv.2
  have h2 := inB_yes hd.1 hd.2
  have HK := Lib.hid (kindA_lt v d)
  have HB0 : Hid (Below w.heap.size w w) := Lib.hid (Below.refl _ _)
  go_enter Tryd.func21, Tryd.ntmps21
  go_wp2_with fail
  refine (l1In_any v 0 9 _).mono ?_
  rintro e w' ⟨rfl, hw⟩
  subst w'
  go_wp2_with fail
  refine (l1In_any d 1 9 _).mono ?_
  rintro e w' ⟨rfl, hw⟩
  subst w'
  go_wp2_with fail
  refine (l6Kind_any v d _ hv hd).mono ?_
  rintro e w' ⟨rfl, hw⟩
  subst w'
  go_wp2_with fail
  refine (l6Names_any (kindA v d) HK.out _).mono ?_
  rintro e w1 ⟨rfl, hb⟩
  have HB1 : Hid (Below w.heap.size w w1) := Lib.hid (HB0.out.trans (hb.mono HB0.out.size))
  have HZ1 : Hid (w.heap.size ≤ w1.heap.size) := Lib.hid hb.size
  clear hb
  go_wp2_with fail
  go_ret2
  exact ⟨rfl, HB1.out⟩
set_option maxRecDepth 100000 in
set_option maxHeartbeats 1600000 in
theorem speKind_no (v d : Int) (w : World) (h : ¬ okK v d) : Calls Tryd.prog 21 #[.int .i64 v, .int .i64 d] w fun e w' => e = .returned (.tuple #[.string ⟨#[]⟩, .bool false]) ∧ Below w.heap.size w w' := by
  by_cases hv : 0 ≤ v ∧ v ≤ 9
  · have h1 := inB_yes hv.1 hv.2
    have h2 : inB d 1 9 = false := inB_no (fun hd => h ⟨hv, hd⟩)
    clear h
    go_enter Tryd.func21, Tryd.ntmps21
    go_wp2_with fail
    refine (l1In_any v 0 9 _).mono ?_
    rintro e w' ⟨rfl, hw⟩
    subst w'
    go_wp2_with fail
    refine (l1In_any d 1 9 _).mono ?_
    rintro e w' ⟨rfl, hw⟩
    subst w'
    go_wp2_with fail
    go_ret2
    exact ⟨rfl, Below.refl _ _⟩
  · have h1 : inB v 0 9 = false := inB_no hv
    clear h hv
    go_enter Tryd.func21, Tryd.ntmps21
    go_wp2_with fail
    refine (l1In_any v 0 9 _).mono ?_
    rintro e w' ⟨rfl, hw⟩
    subst w'
    go_wp2_with fail
    go_ret2
    exact ⟨rfl, Below.refl _ _⟩
set_option maxRecDepth 100000 in
set_option maxHeartbeats 1600000 in
theorem impKind_yes (v d : Int) (w : World) (h : okK v d) (ht : TabN w) : Calls Tryd.prog 20 #[.int .i64 v, .int .i64 d] w fun e w' => e = .returned (.tuple #[.string (nameA (kindA v d)), .bool true]) ∧ Below w.heap.size w w' := by
  obtain ⟨hv, hd⟩ := h
  obtain ⟨hv0, hv1⟩ := hv
  obtain ⟨hd0, hd1⟩ := hd
  have HT := Lib.hid ht
  have y2 : ((kindA v d : Nat) : Int) < 4 := by have := kindA_lt v d; omega
  have y1 : (0 : Int) ≤ ((kindA v d : Nat) : Int) := by omega
  clear ht
  have HB0 : Hid (Below w.heap.size w w) := Lib.hid (Below.refl _ _)
  go_enter Tryd.func20, Tryd.ntmps20
  go_wp2_with fail
  refine (kindOf_any v d _ ⟨hv0, hv1⟩ ⟨hd0, hd1⟩).mono ?_
  rintro e w1 ⟨rfl, hb⟩
  have HB1 : Hid (Below w.heap.size w w1) := Lib.hid (HB0.out.trans (hb.mono HB0.out.size))
  have HZ1 : Hid (w.heap.size ≤ w1.heap.size) := Lib.hid hb.size
  clear hb
  have hc := (tabn_below HT.out HB1.out).cell (kindA v d) (kindA_lt v d)
  go_wp2_with fail
  go_ret2
  exact ⟨rfl, HB1.out⟩
set_option maxRecDepth 100000 in
set_option maxHeartbeats 1600000 in
theorem impKind_no (v d : Int) (w : World) (h : ¬ okK v d) : Calls Tryd.prog 20 #[.int .i64 v, .int .i64 d] w fun e w' => e = .returned (.tuple #[.string ⟨#[]⟩, .bool false]) ∧ Below w.heap.size w w' := by
  by_cases a1 : v < 0
  · clear h
    go_enter Tryd.func20, Tryd.ntmps20
    go_wp2_with fail
    go_ret2
    exact ⟨rfl, Below.refl _ _⟩
  by_cases a2 : 9 < v
  · clear h
    go_enter Tryd.func20, Tryd.ntmps20
    go_wp2_with fail
    go_ret2
    exact ⟨rfl, Below.refl _ _⟩
  by_cases a3 : d < 1
  · clear h
    go_enter Tryd.func20, Tryd.ntmps20
    go_wp2_with fail
    go_ret2
    exact ⟨rfl, Below.refl _ _⟩
  have a4 : 9 < d := by
    rcases Int.lt_or_le 9 d with h' | h'
    · exact h'
    · exact absurd ⟨⟨by omega, by omega⟩, by omega, h'⟩ h
  clear h
  go_enter Tryd.func20, Tryd.ntmps20
  go_wp2_with fail
  go_ret2
  exact ⟨rfl, Below.refl _ _⟩
end Go.Proofs.YtjkjaadcdolbhaaDoor
