/- The members of a class, the Ids of a class: the program's. -/
import Derived.Test.YtlhcediejccieaaPin
namespace Go.Proofs.Ytlhcediejccieaa
set_option linter.unusedVariables false
open Go.RowKit

/-- What membersOf gives: of a valid list and a class its pupils, else none. -/
def MemF (ps : List Pu) (c : Int) (ms : List Pu) (r : Bool) : Prop := (okL ps ∧ (0 ≤ c ∧ c ≤ 9) ∧ ms = memC c ps ∧ r = true) ∨ (¬ (okL ps ∧ (0 ≤ c ∧ c ≤ 9)) ∧ ms = [] ∧ r = false)
theorem memF_or (ps : List Pu) (c : Int) : ∃ ms r, MemF ps c ms r := by
  by_cases h : okL ps ∧ (0 ≤ c ∧ c ≤ 9)
  · exact ⟨_, true, .inl ⟨h.1, h.2, rfl, rfl⟩⟩
  · exact ⟨_, false, .inr ⟨h, rfl, rfl⟩⟩
theorem memF_len {ps ms : List Pu} {c : Int} {r : Bool} (h : MemF ps c ms r) : ms.length ≤ 12 := by
  rcases h with ⟨h1, _, rfl, _⟩ | ⟨_, rfl, _⟩
  · exact Nat.le_trans (memC_len c ps) (okL_len h1)
  · simp
set_option maxRecDepth 100000 in
set_option maxHeartbeats 800000 in
theorem membersOf_no (v : Value) (ps : List Pu) (c : Int) (w : World) (h : RowsR 5 puC w v ps) (hs : ∀ p ∈ ps, p.name.size ≤ maxLen) (hn : ¬ (okL ps ∧ (0 ≤ c ∧ c ≤ 9))) :
    Calls Try.prog 45 #[v, .int .i64 c] w fun e w' => e = .returned (.tuple #[.slice none 0 0, .bool false]) ∧ Below w.heap.size w w' := by
  by_cases ho : okL ps
  · have hc : ¬ (0 ≤ c ∧ c ≤ 9) := fun hc => hn ⟨ho, hc⟩
    have HC := Lib.hid (iGood_yes v ps w h hs ho)
    have HN := Lib.hid hc
    clear h hs ho hn hc
    go_enter Try.func45, Try.ntmps45
    go_wp2_with fail
    refine HC.out.mono ?_
    rintro e w2 ⟨rfl, hb2⟩
    go_wp2_with fail
    refine (isClass_no _ _ HN.out).mono ?_
    rintro e w' ⟨rfl, hw⟩
    subst w'
    go_wp2_with fail
    go_ret2
    exact ⟨rfl, hb2⟩
  · have HC := Lib.hid (iGood_no v ps w h hs ho)
    clear h hs ho hn
    go_enter Try.func45, Try.ntmps45
    go_wp2_with fail
    refine HC.out.mono ?_
    rintro e w2 ⟨rfl, hb2⟩
    go_wp2_with fail
    go_ret2
    exact ⟨rfl, hb2⟩
set_option maxRecDepth 100000 in
set_option maxHeartbeats 1600000 in
theorem membersOf_ok (v : Value) (ps : List Pu) (c : Int) (w : World) (h : RowsR 5 puC w v ps) (hs : ∀ p ∈ ps, p.name.size ≤ maxLen) (ho : okL ps) (hc : 0 ≤ c ∧ c ≤ 9) :
    Calls Try.prog 45 #[v, .int .i64 c] w fun e w' => (∃ sq, e = .returned (.tuple #[sq, .bool true]) ∧ w'.ownsRow w.heap.size 38 5 sq (memC c ps).length (flatC puC (memC c ps))) ∧ Below w.heap.size w w' := by
  obtain ⟨i0, hi, hz0, hz1, hz2⟩ := info_parts Try.infoPupil
  have hl := okL_len ho
  have HC := Lib.hid (iGood_yes v ps w h hs ho)
  obtain ⟨a, cp, rfl⟩ := h.form
  have R1 := Lib.hid h.at
  clear h hs ho
  go_enter Try.func45, Try.ntmps45
  go_wp2_with fail
  refine HC.out.mono ?_
  rintro e w2 ⟨rfl, hb2⟩
  have HB := Lib.hid hb2
  clear hb2
  go_wp2_with fail
  refine (isClass_yes _ _ hc).mono ?_
  rintro e w' ⟨rfl, hw⟩
  subst w'
  clear hc
  go_wp2_with fail
  have HO := Lib.hid (World.ownsRow_made (base := w.heap.size) (e := 38) (size := 5) w2 #[] 0 HB.out.size (Nat.zero_le _) (by simp))
  go_loopw [6, 20] (fun out i wr => ∃ k : Nat, k ≤ ps.length ∧ i = .int .i64 k ∧ wr.ownsRow w.heap.size 38 5 out (memC c (ps.take k)).length (flatC puC (memC c (ps.take k))) ∧ Below w.heap.size w wr) (fun _ i _ => ps.length - (intOf i).toNat)
  case atStart => exact ⟨0, Nat.zero_le _, rfl, HO.out, HB.out.alloc HB.out.size _⟩
  case round =>
    obtain ⟨k, hk, rfl, hown, hb⟩ := hrel
    have HB2 := Lib.hid hb
    have HO2 := Lib.hid hown
    have hidl := memC_len c (ps.take k)
    have htl : (ps.take k).length ≤ k := List.length_take_le _ _
    by_cases hlt : k < ps.length
    · have z1 : (0 : Int) ≤ (k : Int) := by omega
      have z2 : (k : Int) < (ps.length : Int) := by omega
      obtain ⟨b1, o1, rfl, l1, k1⟩ := R1.out _ hb k hlt
      have p0 : wr.cell? ⟨b1, o1 + k * 5, none⟩ = some (.int .i64 ps[k].id) := k1 0 (by omega)
      have p1 : wr.cell? ⟨b1, o1 + k * 5 + 1, none⟩ = some (.string ps[k].name) := k1 1 (by omega)
      have p2 : wr.cell? ⟨b1, o1 + k * 5 + 2, none⟩ = some (.int .i64 ps[k].born) := k1 2 (by omega)
      have p3 : wr.cell? ⟨b1, o1 + k * 5 + 3, none⟩ = some (.int .i64 ps[k].cls) := k1 3 (by omega)
      have p4 : wr.cell? ⟨b1, o1 + k * 5 + 4, none⟩ = some (.int .i64 ps[k].lvl) := k1 4 (by omega)
      have HBX : Hid (Below w.heap.size w (wr.alloc (.cells #[.int .i64 ps[k].id, .string ps[k].name, .int .i64 ps[k].born, .int .i64 ps[k].cls, .int .i64 ps[k].lvl] 38))) := Lib.hid (HB2.out.alloc HB2.out.size _)
      have HSZ := Lib.hid HB2.out.size
      clear hb hown k1
      by_cases hq : ps[k].cls = c
      · have HE := Lib.hid (memC_yes c ps k hlt hq)
        have hcc : (ps[k].cls == c) = true := by simp [hq]
        clear hq
        go_wp2_with (at_builtin; refine wpList_append_own _ rfl _ _ 24 rfl w.heap.size 38 i0 (.agg #[.int .i64 0, .string ⟨#[]⟩, .int .i64 0, .int .i64 0, .int .i64 0]) 5 48 Try.underlying24 hi hz0 hz1 hz2 rfl (by decide) _ _ _ rfl ((HO2.out.alloc _).alloc _) ⟨wr.heap.size + 1, 0, none⟩ 1 1 (puC ps[k]) rfl rfl ?c1 ?c2 ?c3 ?c4 ?c5 ?_)
        case c1 => exact news_at (vs := puC ps[k]) (alloc_at (by simp))
        case c2 => exact puC_one _
        case c3 => unfold maxLen; omega
        case c4 => omega
        case c5 => have := HSZ.out; simp; omega
        intro v' w3 hown3 hgrow3 _
        have HO3 := Lib.hid hown3
        have HB3 : Hid (Below w.heap.size w w3) := Lib.hid ((HBX.out.alloc HBX.out.size _).grown hgrow3 (by have := HSZ.out; simp; omega) (fun q hq => (HO2.out.lt q hq).1))
        clear hown3 hgrow3
        go_wp2_with fail
        go_roundw
        case rel =>
          refine ⟨k + 1, by omega, by go_num, ?_, HB3.out⟩
          rw [HE.out, flatC_app]
          have := HO3.out
          simpa [flatC] using this
        case measure => simp [intOf]; omega
      · have HE := Lib.hid (memC_no c ps k hlt hq)
        have hcc : (ps[k].cls == c) = false := by rw [beq_eq_false_iff_ne]; exact hq
        clear hq
        go_wp2_with fail
        go_roundw
        case rel => exact ⟨k + 1, by omega, by go_num, by rw [HE.out]; exact HO2.out.alloc _, HBX.out⟩
        case measure => simp [intOf]; omega
    · have HE : Hid (memC c (ps.take k) = memC c ps) := Lib.hid (by rw [List.take_of_length_le (by omega)])
      clear hb hown
      go_wp2_with fail
      go_ret2
      exact ⟨⟨_, rfl, HE.out ▸ HO2.out⟩, HB2.out⟩
theorem membersOf_any (v : Value) (ps : List Pu) (c : Int) (w : World) (h : RowsR 5 puC w v ps) (hs : ∀ p ∈ ps, p.name.size ≤ maxLen) (ms : List Pu) (r : Bool) (hm : MemF ps c ms r) :
    Calls Try.prog 45 #[v, .int .i64 c] w fun e w' => (∃ sq, e = .returned (.tuple #[sq, .bool r]) ∧ w'.ownsRow w.heap.size 38 5 sq ms.length (flatC puC ms)) ∧ Below w.heap.size w w' := by
  rcases hm with ⟨ho, hc, rfl, rfl⟩ | ⟨hn, rfl, rfl⟩
  · exact membersOf_ok v ps c w h hs ho hc
  · exact (membersOf_no v ps c w h hs hn).mono fun e w' ⟨he, hb⟩ => ⟨⟨_, he, own_nil' _ _ _ _⟩, hb⟩
set_option maxRecDepth 100000 in
set_option maxHeartbeats 1600000 in
theorem implInClass_any (v : Value) (ps : List Pu) (c : Int) (w : World) (h : RowsR 5 puC w v ps) (hs : ∀ p ∈ ps, p.name.size ≤ maxLen) (ms : List Pu) (r : Bool) (hm : MemF ps c ms r) :
    Calls Try.prog 12 #[v, .int .i64 c] w fun e w' => (∃ sq, e = .returned (.tuple #[sq, .bool r]) ∧ w'.ownsRow w.heap.size 3 1 sq (idL ms).length (flatC inC (idL ms))) ∧ Below w.heap.size w w' := by
  obtain ⟨i0, hi, hz0, hz1, hz2⟩ := info_parts Try.infoInt
  have hl := memF_len hm
  have HC := Lib.hid (membersOf_any v ps c w h hs ms r hm)
  clear h hs hm
  go_enter Try.func12, Try.ntmps12
  go_wp2_with fail
  refine HC.out.mono ?_
  rintro e w2 ⟨⟨sm, rfl, ho⟩, hb2⟩
  have HR := Lib.hid (RowsR.of_own puC_len ho)
  obtain ⟨a, cp, rfl⟩ := own_form ho
  have R1 := Lib.hid HR.out.at
  have HB := Lib.hid hb2
  clear hb2 ho
  go_wp2_with fail
  have HO := Lib.hid (World.ownsRow_made (base := w2.heap.size) (e := 3) (size := 1) w2 #[] 0 (Nat.le_refl _) (Nat.zero_le _) (by simp))
  go_loopw [8, 20] (fun out i wr => ∃ k : Nat, k ≤ ms.length ∧ i = .int .i64 k ∧ wr.ownsRow w2.heap.size 3 1 out (idL (ms.take k)).length (flatC inC (idL (ms.take k))) ∧ Below w2.heap.size w2 wr) (fun _ i _ => ms.length - (intOf i).toNat)
  case atStart => exact ⟨0, Nat.zero_le _, rfl, HO.out, (Below.refl _ _).alloc (Nat.le_refl _) _⟩
  case round =>
    obtain ⟨k, hk, rfl, hown, hb⟩ := hrel
    have HB2 := Lib.hid hb
    have HO2 := Lib.hid hown
    have htl : (idL (ms.take k)).length ≤ k := by rw [idL_len]; exact List.length_take_le _ _
    by_cases hlt : k < ms.length
    · have z1 : (0 : Int) ≤ (k : Int) := by omega
      have z2 : (k : Int) < (ms.length : Int) := by omega
      obtain ⟨b1, o1, rfl, l1, k1⟩ := R1.out _ hb k hlt
      have p0 : wr.cell? ⟨b1, o1 + k * 5, none⟩ = some (.int .i64 ms[k].id) := k1 0 (by omega)
      have p1 : wr.cell? ⟨b1, o1 + k * 5 + 1, none⟩ = some (.string ms[k].name) := k1 1 (by omega)
      have p2 : wr.cell? ⟨b1, o1 + k * 5 + 2, none⟩ = some (.int .i64 ms[k].born) := k1 2 (by omega)
      have p3 : wr.cell? ⟨b1, o1 + k * 5 + 3, none⟩ = some (.int .i64 ms[k].cls) := k1 3 (by omega)
      have p4 : wr.cell? ⟨b1, o1 + k * 5 + 4, none⟩ = some (.int .i64 ms[k].lvl) := k1 4 (by omega)
      have HBX : Hid (Below w2.heap.size w2 (wr.alloc (.cells #[.int .i64 ms[k].id, .string ms[k].name, .int .i64 ms[k].born, .int .i64 ms[k].cls, .int .i64 ms[k].lvl] 38))) := Lib.hid (HB2.out.alloc HB2.out.size _)
      have HSZ := Lib.hid HB2.out.size
      have HE := Lib.hid (idL_snoc ms k hlt)
      clear hb hown k1
      go_wp2_with (at_builtin; refine wpList_append_own _ rfl _ _ 27 rfl w2.heap.size 3 i0 (.int .i64 0) 1 8 Try.underlying27 hi hz0 hz1 hz2 rfl (by decide) _ _ _ rfl ((HO2.out.alloc _).alloc _) ⟨wr.heap.size + 1, 0, none⟩ 1 1 [.int .i64 ms[k].id] rfl rfl ?c1 ?c2 ?c3 ?c4 ?c5 ?_)
      case c1 => exact news_at (vs := [.int .i64 ms[k].id]) (alloc_at (by simp))
      case c2 => intro u hu; rw [List.mem_singleton.1 hu]; rfl
      case c3 => unfold maxLen; omega
      case c4 => omega
      case c5 => have := HSZ.out; simp; omega
      intro v' w3 hown3 hgrow3 _
      have HO3 := Lib.hid hown3
      have HB3 : Hid (Below w2.heap.size w2 w3) := Lib.hid ((HBX.out.alloc HBX.out.size _).grown hgrow3 (by have := HSZ.out; simp; omega) (fun q hq => (HO2.out.lt q hq).1))
      clear hown3 hgrow3
      go_wp2_with fail
      go_roundw
      case rel =>
        refine ⟨k + 1, by omega, by go_num, ?_, HB3.out⟩
        rw [HE.out, flatC_app, List.length_append]
        have := HO3.out
        simpa [flatC, inC] using this
      case measure => simp [intOf]; omega
    · have HE : Hid (ms.take k = ms) := Lib.hid (List.take_of_length_le (by omega))
      clear hb hown
      go_wp2_with fail
      go_ret2
      refine ⟨⟨_, rfl, own_mono ?_ HB.out.size⟩, HB.out.trans (HB2.out.mono HB.out.size)⟩
      have := HO2.out
      rwa [HE.out] at this
end Go.Proofs.Ytlhcediejccieaa
