/- The classes to which a pupil could go: the model's, the program's. -/
import Derived.Test.YtlhcediejccieaaPswap
namespace Go.Proofs.Ytlhcediejccieaa
set_option linter.unusedVariables false
open Go.RowKit

/-- The list in which the pupil at k goes to class c. -/
def put (ps : List Pu) (k : Nat) (hk : k < ps.length) (c : Int) : List Pu := ps.set k (inCl ps[k] c ps[k].lvl)
/-- The classes among the first n. -/
def ClsF (ps : List Pu) (k : Nat) (hk : k < ps.length) : Nat → List Int → Prop
  | 0, xs => xs = []
  | n + 1, xs => ∃ ys, ClsF ps k hk n ys ∧ ((okL (put ps k hk ((n : Int) + 1)) ∧ xs = ys ++ [(n : Int) + 1]) ∨ (¬ okL (put ps k hk ((n : Int) + 1)) ∧ xs = ys))
theorem clsF_ex (ps : List Pu) (k : Nat) (hk : k < ps.length) : ∀ n, ∃ xs, ClsF ps k hk n xs
  | 0 => ⟨[], rfl⟩
  | n + 1 => by
    obtain ⟨ys, h⟩ := clsF_ex ps k hk n
    by_cases ho : okL (put ps k hk ((n : Int) + 1))
    · exact ⟨_, ys, h, .inl ⟨ho, rfl⟩⟩
    · exact ⟨_, ys, h, .inr ⟨ho, rfl⟩⟩
theorem clsF_one {ps : List Pu} {k : Nat} {hk : k < ps.length} : ∀ {n xs ys}, ClsF ps k hk n xs → ClsF ps k hk n ys → xs = ys
  | 0, _, _, h1, h2 => h1.trans h2.symm
  | n + 1, xs, ys, ⟨u, h1, h1'⟩, ⟨v, h2, h2'⟩ => by
    have e := clsF_one h1 h2
    subst e
    rcases h1' with ⟨a, rfl⟩ | ⟨a, rfl⟩ <;> rcases h2' with ⟨b, rfl⟩ | ⟨b, rfl⟩
    · rfl
    · exact absurd a b
    · exact absurd b a
    · rfl
theorem clsF_len {ps : List Pu} {k : Nat} {hk : k < ps.length} : ∀ {n xs}, ClsF ps k hk n xs → xs.length ≤ n
  | 0, _, h => by rw [show _ = [] from h]; simp
  | n + 1, xs, ⟨u, h1, h1'⟩ => by
    have := clsF_len h1
    rcases h1' with ⟨_, rfl⟩ | ⟨_, rfl⟩ <;> simp <;> omega
theorem clsF_yes {ps : List Pu} {k : Nat} {hk : k < ps.length} {n : Nat} {ys : List Int} (h : ClsF ps k hk n ys) (ho : okL (put ps k hk ((n : Int) + 1))) : ClsF ps k hk (n + 1) (ys ++ [(n : Int) + 1]) := ⟨ys, h, .inl ⟨ho, rfl⟩⟩
theorem clsF_no {ps : List Pu} {k : Nat} {hk : k < ps.length} {n : Nat} {ys : List Int} (h : ClsF ps k hk n ys) (ho : ¬ okL (put ps k hk ((n : Int) + 1))) : ClsF ps k hk (n + 1) ys := ⟨ys, h, .inr ⟨ho, rfl⟩⟩

set_option maxRecDepth 100000 in
set_option maxHeartbeats 800000 in
theorem specCls_no (v : Value) (ps : List Pu) (id : Int) (w : World) (h : RowsR 5 puC w v ps) (hs : ∀ p ∈ ps, p.name.size ≤ maxLen) (hl : ps.length ≤ 1048576) (hn : okL ps → fndNo ps id) :
    Calls Try.prog 8 #[v, .int .i64 id] w fun e w' => (∃ sq, e = .returned (.tuple #[sq, .bool false]) ∧ w'.ownsRow w.heap.size 3 1 sq ([] : List Int).length (flatC inC [])) ∧ Below w.heap.size w w' := by
  have HC := Lib.hid (fun w' (hb : Below w.heap.size w w') => l3Find_no v ps id w' (h.below hb (Nat.le_refl _)) hs hl hn)
  clear h hs hn
  go_enter Try.func8, Try.ntmps8
  go_wp2_with fail
  refine (HC.out _ ((Below.refl _ _).alloc (Nat.le_refl _) _)).mono ?_
  rintro e w2 ⟨rfl, hb2⟩
  have HO := Lib.hid (own_below (World.ownsRow_made (base := w.heap.size) (e := 3) (size := 1) w #[] 0 (Nat.le_refl _) (Nat.zero_le _) (by simp)) hb2)
  have HB : Hid (Below w.heap.size w w2) := Lib.hid (((Below.refl _ _).alloc (Nat.le_refl _) _).trans (hb2.mono (by simp)))
  clear hb2
  go_wp2_with fail
  go_ret2
  exact ⟨⟨_, rfl, HO.out⟩, HB.out⟩
set_option maxRecDepth 100000 in
set_option maxHeartbeats 800000 in
theorem implCls_no (v : Value) (ps : List Pu) (id : Int) (w : World) (h : RowsR 5 puC w v ps) (hs : ∀ p ∈ ps, p.name.size ≤ maxLen) (r : Int) (hi : IdxF ps id r false) :
    Calls Try.prog 7 #[v, .int .i64 id] w fun e w' => (∃ sq, e = .returned (.tuple #[sq, .bool false]) ∧ w'.ownsRow w.heap.size 3 1 sq ([] : List Int).length (flatC inC [])) ∧ Below w.heap.size w w' := by
  have HC := Lib.hid (pupilIndex_any v ps id w h hs r false hi)
  clear h hs hi
  go_enter Try.func7, Try.ntmps7
  go_wp2_with fail
  refine HC.out.mono ?_
  rintro e w2 ⟨rfl, hb2⟩
  have HB := Lib.hid hb2
  clear hb2
  go_wp2_with fail
  go_ret2
  exact ⟨⟨_, rfl, World.ownsRow_made (base := w.heap.size) (e := 3) (size := 1) _ #[] 0 HB.out.size (Nat.zero_le _) (by simp)⟩, HB.out.alloc HB.out.size _⟩
set_option maxRecDepth 100000 in
set_option maxHeartbeats 3200000 in
theorem specCls_yes (v : Value) (ps : List Pu) (id : Int) (w : World) (h : RowsR 5 puC w v ps) (hs : ∀ p ∈ ps, p.name.size ≤ maxLen) (ho : okL ps) (k : Nat) (hf : fndAt ps id k) (hk : k < ps.length) (xs : List Int) (hx : ClsF ps k hk 9 xs) :
    Calls Try.prog 8 #[v, .int .i64 id] w fun e w' => (∃ sq, e = .returned (.tuple #[sq, .bool true]) ∧ w'.ownsRow w.heap.size 3 1 sq xs.length (flatC inC xs)) ∧ Below w.heap.size w w' := by
  obtain ⟨i0, hi, hz0, hz1, hz2⟩ := info_parts Try.infoInt
  have hl := okL_len ho
  have HC := Lib.hid (fun w' (hb : Below w.heap.size w w') => l3Find_yes v ps id w' (h.below hb (Nat.le_refl _)) hs ho k hf)
  obtain ⟨a, cp, rfl⟩ := h.form
  have R1 := Lib.hid h.at
  have HR := Lib.hid h
  have HX := Lib.hid hx
  have HW := Lib.hid (fun (c : Int) w' (hb : Below w.heap.size w w') => l3With_any _ ps w' (HR.out.below hb (Nat.le_refl _)) (by omega) k hk c ps[k].lvl)
  have HS := Lib.hid (fun c => hs_set hs k hk c ps[k].lvl)
  change Hid (∀ (c : Int) (w' : World) (hb : Below w.heap.size w w'), Calls Try.prog 42 #[_, .int .i64 k, .int .i64 c, .int .i64 ps[k].lvl] w' fun e w'' => (∃ v', e = .returned v' ∧ w''.ownsRow w'.heap.size 38 5 v' ps.length (flatC puC (put ps k hk c))) ∧ Below w'.heap.size w' w'') at HW
  change Hid (∀ c, ∀ p ∈ put ps k hk c, p.name.size ≤ maxLen) at HS
  have HLL := Lib.hid (fun c => show (put ps k hk c).length = ps.length by unfold put; simp)
  have z1 : (0 : Int) ≤ (k : Int) := by omega
  have z2 : (k : Int) < (ps.length : Int) := by omega
  clear h hs hf ho hx
  go_enter Try.func8, Try.ntmps8
  go_wp2_with fail
  refine (HC.out _ ((Below.refl _ _).alloc (Nat.le_refl _) _)).mono ?_
  rintro e w2 ⟨rfl, hb2⟩
  have HO := Lib.hid (own_below (World.ownsRow_made (base := w.heap.size) (e := 3) (size := 1) w #[] 0 (Nat.le_refl _) (Nat.zero_le _) (by simp)) hb2)
  have HB : Hid (Below w.heap.size w w2) := Lib.hid (((Below.refl _ _).alloc (Nat.le_refl _) _).trans (hb2.mono (by simp)))
  clear hb2
  go_wp2_with fail
  go_loopw [6, 8] (fun out c wr => ∃ (m : Nat) (ys : List Int), m ≤ 9 ∧ c = .int .i64 ((m : Int) + 1) ∧ Hid (ClsF ps k hk m ys) ∧ ys.length ≤ m ∧ wr.ownsRow w.heap.size 3 1 out ys.length (flatC inC ys) ∧ Below w.heap.size w wr) (fun _ c _ => 20 - (intOf c).toNat)
  case atStart => exact ⟨0, [], by omega, rfl, Lib.hid rfl, by simp, HO.out, HB.out⟩
  case round =>
    obtain ⟨m, ys, hm, rfl, HY, hyl, hown, hb⟩ := hrel
    have HB2 := Lib.hid hb
    have HO2 := Lib.hid hown
    by_cases h9 : m < 9
    · have y1 : (m : Int) + 1 ≤ 9 := by omega
      have y0 : (0 : Int) ≤ (m : Int) + 1 := by omega
      obtain ⟨b1, o1, rfl, l1, k1⟩ := R1.out _ hb k hk
      have p4 : wr.cell? ⟨b1, o1 + k * 5 + 4, none⟩ = some (.int .i64 ps[k].lvl) := k1 4 (by omega)
      clear hb k1 hown
      go_wp2_with fail
      refine (HW.out ((m : Int) + 1) _ HB2.out).mono ?_
      rintro e w3 ⟨⟨v', rfl, hown3⟩, hb3⟩
      have HB3 : Hid (Below w.heap.size w w3) := Lib.hid (HB2.out.trans (hb3.mono HB2.out.size))
      have HOO := Lib.hid (own_below HO2.out hb3)
      have HRQ := Lib.hid (RowsR.of_own puC_len (own_relen' (HLL.out ((m : Int) + 1)) hown3))
      clear hb3 hown3 p4
      by_cases hq : okL (put ps k hk ((m : Int) + 1))
      · have HY2 := Lib.hid (clsF_yes HY.out hq)
        have HG := Lib.hid (l3Good_yes v' _ w3 HRQ.out (HS.out _) (by rw [HLL.out]; omega) hq)
        clear hq
        go_wp2_with fail
        refine HG.out.mono ?_
        rintro e w4 ⟨rfl, hb4⟩
        have HB4 : Hid (Below w.heap.size w w4) := Lib.hid (HB3.out.trans (hb4.mono HB3.out.size))
        have HO4 := Lib.hid (own_below HOO.out hb4)
        clear hb4
        go_wp2_with (at_builtin; refine wpList_append_own _ rfl _ _ 27 rfl w.heap.size 3 i0 (.int .i64 0) 1 8 Try.underlying27 hi hz0 hz1 hz2 rfl (by decide) _ _ _ rfl (HO4.out.alloc _) ⟨w4.heap.size, 0, none⟩ 1 1 [.int .i64 ((m : Int) + 1)] rfl rfl ?c1 ?c2 ?c3 ?c4 ?c5 ?_)
        case c1 => exact one_new _ _ _
        case c2 => intro u hu; rw [List.mem_singleton.1 hu]; rfl
        case c3 => unfold maxLen; omega
        case c4 => omega
        case c5 => have := HB4.out.size; simp; omega
        intro v5 w5 hown5 hgrow5 _
        have HO5 := Lib.hid hown5
        have HB5 : Hid (Below w.heap.size w w5) := Lib.hid ((HB4.out.alloc HB4.out.size _).grown hgrow5 (by have := HB4.out.size; simp; omega) (fun q hq => (HO4.out.lt q hq).1))
        clear hown5 hgrow5
        go_wp2_with fail
        go_roundw
        case rel =>
          refine ⟨m + 1, ys ++ [(m : Int) + 1], by omega, by go_num, HY2, by simp; omega, ?_, HB5.out⟩
          rw [flatC_app, List.length_append]
          have := HO5.out
          simpa [flatC, inC] using this
        case measure => simp [intOf]; omega
      · have HY2 := Lib.hid (clsF_no HY.out hq)
        have HG := Lib.hid (l3Good_no v' _ w3 HRQ.out (HS.out _) (by rw [HLL.out]; omega) hq)
        clear hq
        go_wp2_with fail
        refine HG.out.mono ?_
        rintro e w4 ⟨rfl, hb4⟩
        have HB4 : Hid (Below w.heap.size w w4) := Lib.hid (HB3.out.trans (hb4.mono HB3.out.size))
        have HO4 := Lib.hid (own_below HOO.out hb4)
        clear hb4
        go_wp2_with fail
        go_roundw
        case rel => exact ⟨m + 1, ys, by omega, by go_num, HY2, by omega, HO4.out, HB4.out⟩
        case measure => simp [intOf]; omega
    · obtain rfl : m = 9 := by omega
      have HE : Hid (ys = xs) := Lib.hid (clsF_one HY.out HX.out)
      clear hb hown
      go_wp2_with fail
      go_ret2
      exact ⟨⟨_, rfl, HE.out ▸ HO2.out⟩, HB2.out⟩
set_option maxRecDepth 100000 in
set_option maxHeartbeats 3200000 in
theorem implCls_yes (v : Value) (ps : List Pu) (id : Int) (w : World) (h : RowsR 5 puC w v ps) (hs : ∀ p ∈ ps, p.name.size ≤ maxLen) (ho : okL ps) (k : Nat) (hf : fndAt ps id k) (hk : k < ps.length) (xs : List Int) (hx : ClsF ps k hk 9 xs) :
    Calls Try.prog 7 #[v, .int .i64 id] w fun e w' => (∃ sq, e = .returned (.tuple #[sq, .bool true]) ∧ w'.ownsRow w.heap.size 3 1 sq xs.length (flatC inC xs)) ∧ Below w.heap.size w w' := by
  obtain ⟨i0, hi, hz0, hz1, hz2⟩ := info_parts Try.infoInt
  have HC := Lib.hid (pupilIndex_any v ps id w h hs k true (.inl ⟨ho, k, hf, rfl, rfl⟩))
  have HX := Lib.hid hx
  have HPY := Lib.hid (fun (c : Int) w' (hb : Below w.heap.size w w') (hq : okL (put ps k hk c)) => implPut_yes v ps id c w' (h.below hb (Nat.le_refl _)) hs ho k hf hk (put ps k hk c) true (.inl ⟨hq, rfl, rfl⟩))
  have HPN := Lib.hid (fun (c : Int) w' (hb : Below w.heap.size w w') (hq : ¬ okL (put ps k hk c)) => implPut_yes v ps id c w' (h.below hb (Nat.le_refl _)) hs ho k hf hk [] false (.inr ⟨hq, rfl, rfl⟩))
  clear h hs hf ho hx
  go_enter Try.func7, Try.ntmps7
  go_wp2_with fail
  refine HC.out.mono ?_
  rintro e w2 ⟨rfl, hb2⟩
  have HB := Lib.hid hb2
  clear hb2
  go_wp2_with fail
  have HO := Lib.hid (World.ownsRow_made (base := w.heap.size) (e := 3) (size := 1) w2 #[] 0 HB.out.size (Nat.zero_le _) (by simp))
  go_loopw [8, 9] (fun out c wr => ∃ (m : Nat) (ys : List Int), m ≤ 9 ∧ c = .int .i64 ((m : Int) + 1) ∧ Hid (ClsF ps k hk m ys) ∧ ys.length ≤ m ∧ wr.ownsRow w.heap.size 3 1 out ys.length (flatC inC ys) ∧ Below w.heap.size w wr) (fun _ c _ => 20 - (intOf c).toNat)
  case atStart => exact ⟨0, [], by omega, rfl, Lib.hid rfl, by simp, HO.out, HB.out.alloc HB.out.size _⟩
  case round =>
    obtain ⟨m, ys, hm, rfl, HY, hyl, hown, hb⟩ := hrel
    have HB2 := Lib.hid hb
    have HO2 := Lib.hid hown
    clear hb hown
    by_cases h9 : m < 9
    · have y1 : (m : Int) + 1 ≤ 9 := by omega
      have y0 : (0 : Int) ≤ (m : Int) + 1 := by omega
      by_cases hq : okL (put ps k hk ((m : Int) + 1))
      · have HY2 := Lib.hid (clsF_yes HY.out hq)
        have HG := Lib.hid (HPY.out _ wr HB2.out hq)
        clear hq
        go_wp2_with fail
        refine HG.out.mono ?_
        rintro e w4 ⟨⟨sq, rfl, _⟩, hb4⟩
        have HB4 : Hid (Below w.heap.size w w4) := Lib.hid (HB2.out.trans (hb4.mono HB2.out.size))
        have HO4 := Lib.hid (own_below HO2.out hb4)
        clear hb4
        go_wp2_with (at_builtin; refine wpList_append_own _ rfl _ _ 27 rfl w.heap.size 3 i0 (.int .i64 0) 1 8 Try.underlying27 hi hz0 hz1 hz2 rfl (by decide) _ _ _ rfl (HO4.out.alloc _) ⟨w4.heap.size, 0, none⟩ 1 1 [.int .i64 ((m : Int) + 1)] rfl rfl ?c1 ?c2 ?c3 ?c4 ?c5 ?_)
        case c1 => exact one_new _ _ _
        case c2 => intro u hu; rw [List.mem_singleton.1 hu]; rfl
        case c3 => unfold maxLen; omega
        case c4 => omega
        case c5 => have := HB4.out.size; simp; omega
        intro v5 w5 hown5 hgrow5 _
        have HO5 := Lib.hid hown5
        have HB5 : Hid (Below w.heap.size w w5) := Lib.hid ((HB4.out.alloc HB4.out.size _).grown hgrow5 (by have := HB4.out.size; simp; omega) (fun q hq => (HO4.out.lt q hq).1))
        clear hown5 hgrow5
        go_wp2_with fail
        go_roundw
        case rel =>
          refine ⟨m + 1, ys ++ [(m : Int) + 1], by omega, by go_num, HY2, by simp; omega, ?_, HB5.out⟩
          rw [flatC_app, List.length_append]
          have := HO5.out
          simpa [flatC, inC] using this
        case measure => simp [intOf]; omega
      · have HY2 := Lib.hid (clsF_no HY.out hq)
        have HG := Lib.hid (HPN.out _ wr HB2.out hq)
        clear hq
        go_wp2_with fail
        refine HG.out.mono ?_
        rintro e w4 ⟨⟨sq, rfl, _⟩, hb4⟩
        have HB4 : Hid (Below w.heap.size w w4) := Lib.hid (HB2.out.trans (hb4.mono HB2.out.size))
        have HO4 := Lib.hid (own_below HO2.out hb4)
        clear hb4
        go_wp2_with fail
        go_roundw
        case rel => exact ⟨m + 1, ys, by omega, by go_num, HY2, by omega, HO4.out, HB4.out⟩
        case measure => simp [intOf]; omega
    · obtain rfl : m = 9 := by omega
      have HE : Hid (ys = xs) := Lib.hid (clsF_one HY.out HX.out)
      go_wp2_with fail
      go_ret2
      exact ⟨⟨_, rfl, HE.out ▸ HO2.out⟩, HB2.out⟩
end Go.Proofs.Ytlhcediejccieaa
