/- The law on ParseInt returns true: the reference model and the program read exactly the numbers' own texts within the limit. -/
import Derived.Test.YtfbilfplbjjoaaaDoorRead
import Derived.Test.YtfbilfplbjjoaaaDoorShelf
import Derived.Stop.LaidErr
namespace Go.Proofs.YtfbilfplbjjoaaaDoor
set_option linter.unusedVariables false
open Go.RowKit

theorem Tryd.gES : Tryd.prog.globalNamed "strconv.ErrSyntax" = some 0 := by kernel_rfl
theorem Tryd.gEST : (Tryd.prog.globals[0]?).map (·.type) = some 45 := by kernel_rfl
theorem Tryd.gER : Tryd.prog.globalNamed "strconv.ErrRange" = some 1 := by kernel_rfl
theorem Tryd.gERT : (Tryd.prog.globals[1]?).map (·.type) = some 45 := by kernel_rfl
theorem errStar : "*" ++ "errors.errorString" = "*errors.errorString" := by decide
theorem errRow (u : TypeId) (h : Tryd.prog.typeName? 3 u = some "*errors.errorString") : u = 85 :=
  typeName_ptr_named (nm := "errors.errorString") (by rw [errStar]; kernel_rfl) (by kernel_rfl) (by decide) u (by rw [errStar]; exact h)

/-- What the two sentinels of the library hold. -/
def Sents (w : World) : Prop := ∃ a0 a1 : Value, w.var? Tryd.prog "strconv.ErrRange" = some #[.iface 85 a0] ∧ w.var? Tryd.prog "strconv.ErrSyntax" = some #[.iface 85 a1]
theorem sents_of {w : World} {x y z : String × DataW Unit} (hL : laidMet Tryd.prog [x, y, z, ("strconv.ErrRange", Rows.laid_strconv_ErrRange), ("strconv.ErrSyntax", Rows.laid_strconv_ErrSyntax)] w) : Sents w := by
  have h1 := hL.tail.tail.tail
  obtain ⟨a0, s0, hv0, -, -, -⟩ := laid_sentinel h1 Tryd.gER Tryd.gERT Tryd.underlying45 errRow Tryd.underlying85 Tryd.underlying87 rfl rfl Tryd.underlying9 (by kernel_rfl) (by kernel_rfl)
  obtain ⟨a1, s1, hv1, -, -, -⟩ := laid_sentinel h1.tail Tryd.gES Tryd.gEST Tryd.underlying45 errRow Tryd.underlying85 Tryd.underlying87 rfl rfl Tryd.underlying9 (by kernel_rfl) (by kernel_rfl)
  exact ⟨_, _, hv0, hv1⟩
theorem sents_below {w w' : World} (h : Sents w) (hb : Below w.heap.size w w') : Sents w' := by
  obtain ⟨a0, a1, h0, h1⟩ := h
  exact ⟨a0, a1, Go.Joins.var_stays Tryd.gER h0 hb (Nat.le_refl _), Go.Joins.var_stays Tryd.gES h1 hb (Nat.le_refl _)⟩

theorem atoi_yes (s : ByteArray) (v : Int) (w : World) (hs : s.size ≤ 1048576) (h : Lib.atoiAll s.data.toList = .ok v) :
    Calls Tryd.prog 23 #[.string s] w fun e w' => e = .returned (.tuple #[.int .i64 v, .nilIface]) ∧ Below w.heap.size w w' :=
  (Tryd.strconv_Atoi_ok s (by omega) v h w).mono fun _ _ ⟨he, hw⟩ => ⟨he, by
    rcases hw with rfl | ⟨t, rfl⟩
    · exact Below.refl _ _
    · exact Lib.bytesWorld_below _ _ _⟩
theorem atoi_no (s : ByteArray) (w : World) (hs : s.size ≤ 1048576) (h : ∀ v, Lib.atoiAll s.data.toList ≠ .ok v) (hE : Sents w) :
    Calls Tryd.prog 23 #[.string s] w fun e w' => (∃ x N, e = .returned (.tuple #[.int .i64 x, .iface 63 (.pointer (some ⟨N, 0, none⟩))])) ∧ Below w.heap.size w w' := by
  obtain ⟨a0, a1, h0, h1⟩ := hE
  cases hh : Lib.atoiAll s.data.toList <;> first
    | exact absurd hh (h _)
    | exact (Any.strconv_Atoi_range_var Tryd.laysC172 s (by omega) hh _ _ w h0).mono fun _ _ ⟨N, he, _, _, hb⟩ => ⟨⟨_, _, he⟩, hb⟩
    | exact (Any.strconv_Atoi_syntax_var Tryd.laysC172 s (by omega) hh _ _ w h1).mono fun _ _ ⟨N, he, _, _, hb⟩ => ⟨⟨_, _, he⟩, hb⟩

set_option maxRecDepth 100000 in
set_option maxHeartbeats 400000 in
theorem specParse_num (s : ByteArray) (w : World) (v : Int) (h0 : -999999 ≤ v) (h1 : v ≤ 999999) (hv : Lib.itoa v = s.data.toList) :
    Calls Tryd.prog 10 #[.string s] w fun e w' => e = .returned (.tuple #[.int .i64 v, .bool true]) ∧ ∃ m, w' = w.drewN m := by
  have H := Lib.hid hv
  clear hv
  go_enter Tryd.func10, Tryd.ntmps10
  go_wp2_with (go_at_call 24; refine (l1Read_num s _ v h0 h1 H.out).mono ?_; rintro e w' ⟨rfl, m, rfl⟩)
  go_ret2
  exact ⟨rfl, _, rfl⟩
set_option maxRecDepth 100000 in
set_option maxHeartbeats 400000 in
theorem specParse_none (s : ByteArray) (w : World) (hs : s.size ≤ maxLen) (hv : ∀ v, -999999 ≤ v → v ≤ 999999 → Lib.itoa v ≠ s.data.toList) :
    Calls Tryd.prog 10 #[.string s] w fun e w' => e = .returned (.tuple #[.int .i64 0, .bool false]) ∧ ∃ m, w' = w.drewN m := by
  have H := Lib.hid hv
  clear hv
  go_enter Tryd.func10, Tryd.ntmps10
  go_wp2_with (go_at_call 24; refine (l1Read_none s _ hs H.out).mono ?_; rintro e w' ⟨rfl, m, rfl⟩)
  go_ret2
  exact ⟨rfl, _, rfl⟩

set_option maxRecDepth 100000 in
set_option maxHeartbeats 400000 in
theorem implParse_num (s : ByteArray) (w : World) (hs : s.size ≤ 1048576) (v : Int) (h0 : -999999 ≤ v) (h1 : v ≤ 999999) (hv : Lib.itoa v = s.data.toList) (ht : Lib.TabIs Tryd.prog w "internal/strconv.uint64pow10" .u64 Lib.pow10Tab) :
    Calls Tryd.prog 9 #[.string s] w fun e w' => e = .returned (.tuple #[.int .i64 v, .bool true]) ∧ Below w.heap.size w w' := by
  have HT := Lib.hid ht
  have hne := lneF hv
  have HA := Lib.hid (show Lib.atoiAll s.data.toList = .ok v by rw [← hv]; exact atoi_itoa v h0 h1)
  clear hv ht
  go_enter Tryd.func9, Tryd.ntmps9
  go_wp2_with fail
  refine (atoi_yes s v _ hs HA.out).mono ?_
  rintro e w1 ⟨rfl, hb⟩
  go_wp2_with fail
  refine (implFormatInt_in v _ h0 h1 (tab_below HT.out hb)).mono ?_
  rintro e w2 ⟨rfl, hb2⟩
  go_wp2_with fail
  go_ret2
  exact ⟨rfl, hb.trans (hb2.mono hb.size)⟩
set_option maxRecDepth 100000 in
set_option maxHeartbeats 400000 in
theorem implParse_other (s : ByteArray) (w : World) (hs : s.size ≤ 1048576) (v : Int) (h0 : -999999 ≤ v) (h1 : v ≤ 999999) (hv : Lib.itoa v ≠ s.data.toList) (hA : Lib.atoiAll s.data.toList = .ok v) (ht : Lib.TabIs Tryd.prog w "internal/strconv.uint64pow10" .u64 Lib.pow10Tab) :
    Calls Tryd.prog 9 #[.string s] w fun e w' => e = .returned (.tuple #[.int .i64 0, .bool false]) ∧ Below w.heap.size w w' := by
  have HT := Lib.hid ht
  have hne := lneT hv
  have HA := Lib.hid hA
  clear hv ht hA
  go_enter Tryd.func9, Tryd.ntmps9
  go_wp2_with fail
  refine (atoi_yes s v _ hs HA.out).mono ?_
  rintro e w1 ⟨rfl, hb⟩
  go_wp2_with fail
  refine (implFormatInt_in v _ h0 h1 (tab_below HT.out hb)).mono ?_
  rintro e w2 ⟨rfl, hb2⟩
  go_wp2_with fail
  go_ret2
  exact ⟨rfl, hb.trans (hb2.mono hb.size)⟩
set_option maxRecDepth 100000 in
set_option maxHeartbeats 400000 in
theorem implParse_big (s : ByteArray) (w : World) (hs : s.size ≤ 1048576) (v : Int) (h : ¬ (-999999 ≤ v ∧ v ≤ 999999)) (hA : Lib.atoiAll s.data.toList = .ok v) :
    Calls Tryd.prog 9 #[.string s] w fun e w' => e = .returned (.tuple #[.int .i64 0, .bool false]) ∧ Below w.heap.size w w' := by
  have H := Lib.hid h
  have HA := Lib.hid hA
  clear h hA
  go_enter Tryd.func9, Tryd.ntmps9
  go_wp2_with fail
  refine (atoi_yes s v _ hs HA.out).mono ?_
  rintro e w1 ⟨rfl, hb⟩
  go_wp2_with fail
  refine (implFormatInt_out v _ H.out).mono ?_
  rintro e w2 ⟨rfl, rfl⟩
  go_wp2_with fail
  go_ret2
  exact ⟨rfl, hb⟩
set_option maxRecDepth 100000 in
set_option maxHeartbeats 400000 in
theorem implParse_err (s : ByteArray) (w : World) (hs : s.size ≤ 1048576) (h : ∀ v, Lib.atoiAll s.data.toList ≠ .ok v) (hE : Sents w) :
    Calls Tryd.prog 9 #[.string s] w fun e w' => e = .returned (.tuple #[.int .i64 0, .bool false]) ∧ Below w.heap.size w w' := by
  have H := Lib.hid h
  have HE := Lib.hid hE
  clear h hE
  go_enter Tryd.func9, Tryd.ntmps9
  go_wp2_with fail
  refine (atoi_no s _ hs H.out HE.out).mono ?_
  rintro e w1 ⟨⟨x, N, rfl⟩, hb⟩
  go_wp2_with fail
  go_ret2
  exact ⟨rfl, hb⟩
theorem implParse_none (s : ByteArray) (w : World) (hs : s.size ≤ 1048576) (hv : ∀ v, -999999 ≤ v → v ≤ 999999 → Lib.itoa v ≠ s.data.toList) (hE : Sents w) (ht : Lib.TabIs Tryd.prog w "internal/strconv.uint64pow10" .u64 Lib.pow10Tab) :
    Calls Tryd.prog 9 #[.string s] w fun e w' => e = .returned (.tuple #[.int .i64 0, .bool false]) ∧ Below w.heap.size w w' := by
  by_cases hA : ∃ v, Lib.atoiAll s.data.toList = .ok v
  · obtain ⟨v, hA⟩ := hA
    by_cases h : -999999 ≤ v ∧ v ≤ 999999
    · exact implParse_other s w hs v h.1 h.2 (hv v h.1 h.2) hA ht
    · exact implParse_big s w hs v h hA
  · exact implParse_err s w hs (fun v hv => hA ⟨v, hv⟩) hE

end Go.Proofs.YtfbilfplbjjoaaaDoor
