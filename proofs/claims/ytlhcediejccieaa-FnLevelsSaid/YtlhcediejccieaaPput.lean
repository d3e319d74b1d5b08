/- A pupil put in a class: the model's, the program's. -/
import Derived.Test.YtlhcediejccieaaPidx
import Derived.Test.YtlhcediejccieaaPin
namespace Go.Proofs.Ytlhcediejccieaa
set_option linter.unusedVariables false
open Go.RowKit

theorem hs_set {ps : List Pu} (hs : ∀ p ∈ ps, p.name.size ≤ maxLen) (k : Nat) (hk : k < ps.length) (c l : Int) : ∀ p ∈ ps.set k (inCl ps[k] c l), p.name.size ≤ maxLen := by
  intro p hp
  rcases List.mem_or_eq_of_mem_set hp with h | rfl
  · exact hs p h
  · show (ps[k]).name.size ≤ maxLen
    exact hs _ (List.getElem_mem hk)
theorem idx_no {ps : List Pu} {id : Int} (h : ¬ (okL ps ∧ ∃ k, fndAt ps id k)) : (okL ps → fndNo ps id) ∧ ∃ r, IdxF ps id r false := by
  by_cases ho : okL ps
  · have hn : fndNo ps id := by
      rcases fnd_or ps id with ⟨k, hk⟩ | hn
      · exact absurd ⟨ho, k, hk⟩ h
      · exact hn
    exact ⟨fun _ => hn, -1, .inr (.inl ⟨ho, hn, rfl, rfl⟩)⟩
  · exact ⟨fun h' => absurd h' ho, 0, .inr (.inr ⟨ho, rfl, rfl⟩)⟩

set_option maxRecDepth 100000 in
set_option maxHeartbeats 800000 in
theorem specPut_no (v : Value) (ps : List Pu) (id c : Int) (w : World) (h : RowsR 5 puC w v ps) (hs : ∀ p ∈ ps, p.name.size ≤ maxLen) (hl : ps.length ≤ 1048576) (hn : okL ps → fndNo ps id) :
    Calls Try.prog 18 #[v, .int .i64 id, .int .i64 c] w fun e w' => (∃ sq, e = .returned (.tuple #[sq, .bool false]) ∧ w'.ownsRow w.heap.size 38 5 sq ([] : List Pu).length (flatC puC [])) ∧ Below w.heap.size w w' := by
  have HC := Lib.hid (l3Find_no v ps id w h hs hl hn)
  clear h hs hn
  go_enter Try.func18, Try.ntmps18
  go_wp2_with fail
  refine HC.out.mono ?_
  rintro e w2 ⟨rfl, hb2⟩
  have HB := Lib.hid hb2
  clear hb2
  go_wp2_with fail
  go_ret2
  exact ⟨⟨_, rfl, World.ownsRow_made (base := w.heap.size) (e := 38) (size := 5) _ #[] 0 HB.out.size (Nat.zero_le _) (by simp)⟩, HB.out.alloc HB.out.size _⟩
set_option maxRecDepth 100000 in
set_option maxHeartbeats 1600000 in
theorem specPut_yes (v : Value) (ps : List Pu) (id c : Int) (w : World) (h : RowsR 5 puC w v ps) (hs : ∀ p ∈ ps, p.name.size ≤ maxLen) (ho : okL ps) (k : Nat) (hf : fndAt ps id k) (hk : k < ps.length) (qs : List Pu) (t : Bool) (ht : (okL (ps.set k (inCl ps[k] c ps[k].lvl)) ∧ t = true ∧ qs = ps.set k (inCl ps[k] c ps[k].lvl)) ∨ (¬ okL (ps.set k (inCl ps[k] c ps[k].lvl)) ∧ t = false ∧ qs = [])) :
    Calls Try.prog 18 #[v, .int .i64 id, .int .i64 c] w fun e w' => (∃ sq, e = .returned (.tuple #[sq, .bool t]) ∧ w'.ownsRow w.heap.size 38 5 sq qs.length (flatC puC qs)) ∧ Below w.heap.size w w' := by
  have hl := okL_len ho
  have HS := Lib.hid (hs_set hs k hk c ps[k].lvl)
  have HC := Lib.hid (l3Find_yes v ps id w h hs ho k hf)
  obtain ⟨a, cp, rfl⟩ := h.form
  have R1 := Lib.hid h.at
  have HR := Lib.hid h
  have HT := Lib.hid ht
  clear h hs hf ho ht
  have z1 : (0 : Int) ≤ (k : Int) := by omega
  have z2 : (k : Int) < (ps.length : Int) := by omega
  go_enter Try.func18, Try.ntmps18
  go_wp2_with fail
  refine HC.out.mono ?_
  rintro e w2 ⟨rfl, hb2⟩
  have HB := Lib.hid hb2
  obtain ⟨b1, o1, rfl, l1, k1⟩ := R1.out _ hb2 k hk
  have p4 : w2.cell? ⟨b1, o1 + k * 5 + 4, none⟩ = some (.int .i64 ps[k].lvl) := k1 4 (by omega)
  have HW := Lib.hid (l3With_any _ ps w2 (HR.out.below hb2 (Nat.le_refl _)) (by omega) k hk c ps[k].lvl)
  have hll : (ps.set k (inCl ps[k] c ps[k].lvl)).length ≤ 1048576 := by rw [List.length_set]; omega
  have HLL := Lib.hid (show (ps.set k (inCl ps[k] c ps[k].lvl)).length = ps.length from List.length_set)
  generalize hqs : ps.set k (inCl ps[k] c ps[k].lvl) = qq at HS HT HW hll HLL
  clear hqs
  generalize ps[k].lvl = lv at p4 HW
  clear hb2 k1
  go_wp2_with fail
  refine HW.out.mono ?_
  rintro e w3 ⟨⟨v', rfl, hown⟩, hb3⟩
  have HO := Lib.hid (own_relen' HLL.out hown)
  have HB3 : Hid (Below w.heap.size w w3) := Lib.hid (HB.out.trans (hb3.mono HB.out.size))
  have HB23 := Lib.hid hb3.size
  clear hown hb3
  have HRQ := Lib.hid (RowsR.of_own puC_len HO.out)
  by_cases hq : okL qq
  · have HTT : Hid (t = true ∧ qs = qq) := Lib.hid (by
      rcases HT.out with ⟨_, h1, h2⟩ | ⟨h0, _⟩
      · exact ⟨h1, h2⟩
      · exact absurd hq h0)
    have HG := Lib.hid (l3Good_yes v' qq w3 HRQ.out HS.out hll hq)
    clear hq
    go_wp2_with fail
    refine HG.out.mono ?_
    rintro e w4 ⟨rfl, hb4⟩
    have HO4 := Lib.hid (own_below HO.out hb4)
    have HB4 : Hid (Below w.heap.size w w4) := Lib.hid (HB3.out.trans (hb4.mono HB3.out.size))
    clear hb4
    go_wp2_with fail
    go_ret2
    refine ⟨⟨v', by rw [HTT.out.1]; rfl, ?_⟩, HB4.out⟩
    rw [HTT.out.2]
    exact own_mono HO4.out HB.out.size
  · have HTT : Hid (t = false ∧ qs = []) := Lib.hid (by
      rcases HT.out with ⟨h0, _⟩ | ⟨_, h1, h2⟩
      · exact absurd h0 hq
      · exact ⟨h1, h2⟩)
    have HG := Lib.hid (l3Good_no v' qq w3 HRQ.out HS.out hll hq)
    clear hq
    go_wp2_with fail
    refine HG.out.mono ?_
    rintro e w4 ⟨rfl, hb4⟩
    have HB4 : Hid (Below w.heap.size w w4) := Lib.hid (HB3.out.trans (hb4.mono HB3.out.size))
    clear hb4
    go_wp2_with fail
    go_ret2
    refine ⟨⟨_, by rw [HTT.out.1]; rfl, ?_⟩, HB4.out.alloc HB4.out.size _⟩
    rw [HTT.out.2]
    exact World.ownsRow_made (base := w.heap.size) (e := 38) (size := 5) _ #[] 0 HB4.out.size (Nat.zero_le _) (by simp)
/-- The program's last test: a list that it owns, as it is, or an empty one. -/
theorem onlyIf_any (v : Value) (qq qs : List Pu) (B : Nat) (t : Bool) (w : World) (hB : B ≤ w.heap.size) (ho : w.ownsRow B 38 5 v qq.length (flatC puC qq)) (hs : ∀ p ∈ qq, p.name.size ≤ maxLen) (ht : (okL qq ∧ t = true ∧ qs = qq) ∨ (¬ okL qq ∧ t = false ∧ qs = [])) :
    Calls Try.prog 44 #[v] w fun e w' => (∃ sq, e = .returned (.tuple #[sq, .bool t]) ∧ w'.ownsRow B 38 5 sq qs.length (flatC puC qs)) ∧ Below w.heap.size w w' := by
  have HO := Lib.hid ho
  have HRQ := Lib.hid (RowsR.of_own puC_len ho)
  rcases ht with ⟨hq, rfl, rfl⟩ | ⟨hq, rfl, rfl⟩
  · have HG := Lib.hid (iGood_yes v qs w HRQ.out hs hq)
    clear hs hq ho
    go_enter Try.func44, Try.ntmps44
    go_wp2_with fail
    refine HG.out.mono ?_
    rintro e w4 ⟨rfl, hb4⟩
    have HO4 := Lib.hid (own_below HO.out hb4)
    go_wp2_with fail
    go_ret2
    exact ⟨⟨v, rfl, HO4.out⟩, hb4⟩
  · have HG := Lib.hid (iGood_no v qq w HRQ.out hs hq)
    clear hs hq ho
    go_enter Try.func44, Try.ntmps44
    go_wp2_with fail
    refine HG.out.mono ?_
    rintro e w4 ⟨rfl, hb4⟩
    have HB4 := Lib.hid hb4
    clear hb4
    go_wp2_with fail
    go_ret2
    exact ⟨⟨_, rfl, World.ownsRow_made (base := B) (e := 38) (size := 5) _ #[] 0 (Nat.le_trans hB HB4.out.size) (Nat.zero_le _) (by simp)⟩, HB4.out.alloc HB4.out.size _⟩
set_option maxRecDepth 100000 in
set_option maxHeartbeats 800000 in
theorem implPut_no (v : Value) (ps : List Pu) (id c : Int) (w : World) (h : RowsR 5 puC w v ps) (hs : ∀ p ∈ ps, p.name.size ≤ maxLen) (r : Int) (hi : IdxF ps id r false) :
    Calls Try.prog 10 #[v, .int .i64 id, .int .i64 c] w fun e w' => (∃ sq, e = .returned (.tuple #[sq, .bool false]) ∧ w'.ownsRow w.heap.size 38 5 sq ([] : List Pu).length (flatC puC [])) ∧ Below w.heap.size w w' := by
  have HC := Lib.hid (pupilIndex_any v ps id w h hs r false hi)
  clear h hs hi
  go_enter Try.func10, Try.ntmps10
  go_wp2_with fail
  refine HC.out.mono ?_
  rintro e w2 ⟨rfl, hb2⟩
  have HB := Lib.hid hb2
  clear hb2
  go_wp2_with fail
  go_ret2
  exact ⟨⟨_, rfl, World.ownsRow_made (base := w.heap.size) (e := 38) (size := 5) _ #[] 0 HB.out.size (Nat.zero_le _) (by simp)⟩, HB.out.alloc HB.out.size _⟩
set_option maxRecDepth 100000 in
set_option maxHeartbeats 1600000 in
theorem implPut_yes (v : Value) (ps : List Pu) (id c : Int) (w : World) (h : RowsR 5 puC w v ps) (hs : ∀ p ∈ ps, p.name.size ≤ maxLen) (ho : okL ps) (k : Nat) (hf : fndAt ps id k) (hk : k < ps.length) (qs : List Pu) (t : Bool) (ht : (okL (ps.set k (inCl ps[k] c ps[k].lvl)) ∧ t = true ∧ qs = ps.set k (inCl ps[k] c ps[k].lvl)) ∨ (¬ okL (ps.set k (inCl ps[k] c ps[k].lvl)) ∧ t = false ∧ qs = [])) :
    Calls Try.prog 10 #[v, .int .i64 id, .int .i64 c] w fun e w' => (∃ sq, e = .returned (.tuple #[sq, .bool t]) ∧ w'.ownsRow w.heap.size 38 5 sq qs.length (flatC puC qs)) ∧ Below w.heap.size w w' := by
  have hl := okL_len ho
  have HS := Lib.hid (hs_set hs k hk c ps[k].lvl)
  have HC := Lib.hid (pupilIndex_any v ps id w h hs k true (.inl ⟨ho, k, hf, rfl, rfl⟩))
  have HR := Lib.hid h
  have HT := Lib.hid ht
  have HE := Lib.hid (flatC_set1 puC_len ps k 3 hk (by omega) (.int .i64 c) (inCl ps[k] c ps[k].lvl) (puC_cls _ _))
  have HLL := Lib.hid (show (ps.set k (inCl ps[k] c ps[k].lvl)).length = ps.length from List.length_set)
  generalize ps.set k (inCl ps[k] c ps[k].lvl) = qq at HS HT HE HLL
  clear h hs hf ho ht
  have z1 : (0 : Int) ≤ (k : Int) := by omega
  have z2 : (k : Int) < (ps.length : Int) := by omega
  go_enter Try.func10, Try.ntmps10
  go_wp2_with fail
  refine HC.out.mono ?_
  rintro e w2 ⟨rfl, hb2⟩
  have HB := Lib.hid hb2
  clear hb2
  go_wp2_with fail
  refine (clonePu_any v ps w2 (HR.out.below HB.out (Nat.le_refl _)) (by omega)).mono ?_
  rintro e w3 ⟨⟨v', rfl, hown⟩, hb3⟩
  have HB3 : Hid (Below w.heap.size w w3) := Lib.hid (HB.out.trans (hb3.mono HB.out.size))
  clear hb3
  obtain ⟨g, cap, rfl⟩ := own_some hown (by omega)
  have HG : Hid (w2.heap.size ≤ g) := Lib.hid (hown.lt g rfl).1
  obtain ⟨u3, d3⟩ : ∃ u, w3.cell? ⟨g, k * 5 + 3, none⟩ = some u := ⟨_, (hown.cellAt (k * 5 + 3) (by omega)).trans (List.getElem?_eq_getElem (by rw [flatC_len puC_len]; omega))⟩
  have f3 : w3.frozen? ⟨g, k * 5 + 3, none⟩ = false := hown.frozenAt _
  have HO := Lib.hid (own_relen' HLL.out (own_eq (hown.stored (k * 5 + 3) (.int .i64 c)).1 HE.out))
  have HB4 : Hid (Below w.heap.size w (w3.setCell ⟨g, k * 5 + 3, none⟩ (.int .i64 c))) := Lib.hid (HB3.out.setCell (p := ⟨g, k * 5 + 3, none⟩) (Nat.le_trans HB.out.size HG.out) _)
  clear hown
  go_wp2_with fail
  generalize w3.setCell ⟨g, k * 5 + 3, none⟩ (.int .i64 c) = w4 at HO HB4 ⊢
  refine (onlyIf_any _ qq qs w.heap.size t w4 HB4.out.size (own_mono HO.out HB.out.size) HS.out HT.out).mono ?_
  rintro e w5 ⟨⟨sq, rfl, ho5⟩, hb5⟩
  have HO5 := Lib.hid ho5
  have HB5 : Hid (Below w.heap.size w w5) := Lib.hid (HB4.out.trans (hb5.mono HB4.out.size))
  clear hb5 ho5
  go_wp2_with fail
  go_ret2
  exact ⟨⟨sq, rfl, HO5.out⟩, HB5.out⟩
end Go.Proofs.Ytlhcediejccieaa
