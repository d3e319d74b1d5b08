/- The model's ShiftLesson and FirstSlot. -/
import Derived.Test.YtblbeoeklkcamaaDoorLe2
import Derived.Test.YtblbeoeklkcamaaDoorTso
namespace Go.Proofs.YtblbeoeklkcamaaDoor
set_option linter.unusedVariables false
open Go.RowKit

set_option maxRecDepth 100000 in
set_option maxHeartbeats 1600000 in
theorem specShift_no (v : Value) (ps : List Les) (id d b : Int) (w : World) (h : RowsR 7 lesC w v ps) (qs : List Les) (t : Bool) (hn : ¬ ∃ k, okLs ps ∧ fndAt ps id k ∧ fitP ps k d b) (hq : qs = [] ∧ t = false) :
    Calls Tryd.prog 13 #[v, .int .i64 id, .int .i64 d, .int .i64 b] w fun e w' => (∃ sq, e = .returned (.tuple #[sq, .bool t]) ∧ w'.ownsRow w.heap.size 31 7 sq qs.length (flatC lesC qs)) ∧ Below w.heap.size w w' := by
  have HT := Lib.hid hq
  have HR := Lib.hid h
  obtain ⟨a, cp, rfl⟩ := h.form
  clear h hq
  rcases fnd_or ps id with ⟨k, hk⟩ | hno
  · have HC := Lib.hid (l11Find_yes _ ps id w HR.out k hk)
    have hkl : k < ps.length := hk.1
    have z1 : (0 : Int) ≤ (k : Int) := by omega
    by_cases ho : okLs ps
    · have HF : Hid (¬ fitP ps k d b) := Lib.hid (fun hf => hn ⟨k, ho, hk, hf⟩)
      have HO := Lib.hid ho
      clear hn hk ho
      go_enter Tryd.func13, Tryd.ntmps13
      go_wp2_with fail
      refine (HC.out).mono ?_
      rintro e w2 ⟨rfl, hb2⟩
      have HB := Lib.hid hb2
      clear hb2
      go_wp2_with fail
      refine (l11Good_yes _ ps w2 (HR.out.below HB.out (Nat.le_refl _)) HO.out).mono ?_
      rintro e w3 ⟨rfl, hb3⟩
      have HB3 := Lib.hid (HB.out.trans (hb3.mono HB.out.size))
      clear hb3
      go_wp2_with fail
      refine (l11Fits_any _ ps k d b w3 (HR.out.below HB3.out (Nat.le_refl _)) hkl false ⟨fun e => by simp at e, fun e => absurd e HF.out⟩).mono ?_
      rintro e w4 ⟨rfl, hb4⟩
      have HB4 := Lib.hid (HB3.out.trans (hb4.mono HB3.out.size))
      clear hb4
      go_wp2_with fail
      go_ret2
      refine ⟨⟨_, by rw [HT.out.2]; rfl, ?_⟩, HB4.out.alloc HB4.out.size _⟩
      rw [HT.out.1]
      exact World.ownsRow_made (base := w.heap.size) (e := 31) (size := 7) _ #[] 0 HB4.out.size (Nat.zero_le _) (by simp)
    · have HO := Lib.hid ho
      clear hn hk ho
      go_enter Tryd.func13, Tryd.ntmps13
      go_wp2_with fail
      refine (HC.out).mono ?_
      rintro e w2 ⟨rfl, hb2⟩
      have HB := Lib.hid hb2
      clear hb2
      go_wp2_with fail
      refine (l11Good_no _ ps w2 (HR.out.below HB.out (Nat.le_refl _)) HO.out).mono ?_
      rintro e w3 ⟨rfl, hb3⟩
      have HB3 := Lib.hid (HB.out.trans (hb3.mono HB.out.size))
      clear hb3
      go_wp2_with fail
      go_ret2
      refine ⟨⟨_, by rw [HT.out.2]; rfl, ?_⟩, HB3.out.alloc HB3.out.size _⟩
      rw [HT.out.1]
      exact World.ownsRow_made (base := w.heap.size) (e := 31) (size := 7) _ #[] 0 HB3.out.size (Nat.zero_le _) (by simp)
  · have HC := Lib.hid (l11Find_no _ ps id w HR.out hno)
    by_cases ho : okLs ps
    · have HO := Lib.hid ho
      clear hn hno ho
      go_enter Tryd.func13, Tryd.ntmps13
      go_wp2_with fail
      refine (HC.out).mono ?_
      rintro e w2 ⟨rfl, hb2⟩
      have HB := Lib.hid hb2
      clear hb2
      go_wp2_with fail
      refine (l11Good_yes _ ps w2 (HR.out.below HB.out (Nat.le_refl _)) HO.out).mono ?_
      rintro e w3 ⟨rfl, hb3⟩
      have HB3 := Lib.hid (HB.out.trans (hb3.mono HB.out.size))
      clear hb3
      go_wp2_with fail
      go_ret2
      refine ⟨⟨_, by rw [HT.out.2]; rfl, ?_⟩, HB3.out.alloc HB3.out.size _⟩
      rw [HT.out.1]
      exact World.ownsRow_made (base := w.heap.size) (e := 31) (size := 7) _ #[] 0 HB3.out.size (Nat.zero_le _) (by simp)
    · have HO := Lib.hid ho
      clear hn hno ho
      go_enter Tryd.func13, Tryd.ntmps13
      go_wp2_with fail
      refine (HC.out).mono ?_
      rintro e w2 ⟨rfl, hb2⟩
      have HB := Lib.hid hb2
      clear hb2
      go_wp2_with fail
      refine (l11Good_no _ ps w2 (HR.out.below HB.out (Nat.le_refl _)) HO.out).mono ?_
      rintro e w3 ⟨rfl, hb3⟩
      have HB3 := Lib.hid (HB.out.trans (hb3.mono HB.out.size))
      clear hb3
      go_wp2_with fail
      go_ret2
      refine ⟨⟨_, by rw [HT.out.2]; rfl, ?_⟩, HB3.out.alloc HB3.out.size _⟩
      rw [HT.out.1]
      exact World.ownsRow_made (base := w.heap.size) (e := 31) (size := 7) _ #[] 0 HB3.out.size (Nat.zero_le _) (by simp)
theorem Tryd.infoLes : (Tryd.prog.info? 31).map (fun i => (i.zero, i.size, i.bytes)) = some (some (.agg #[.int .i64 0, .int .i64 0, .int .i64 0, .int .i64 0, .int .i64 0, .int .i64 0, .int .i64 0]), 7, 56) := by kernel_rfl
set_option maxRecDepth 100000 in
set_option maxHeartbeats 3200000 in
theorem specShift_yes (v : Value) (ps : List Les) (id d b : Int) (w : World) (h : RowsR 7 lesC w v ps) (k : Nat) (ho : okLs ps) (hf : fndAt ps id k) (hfit : fitP ps k d b) (qs : List Les) (hq : qs = ps.set k (atL (leD ps k) d b)) :
    Calls Tryd.prog 13 #[v, .int .i64 id, .int .i64 d, .int .i64 b] w fun e w' => (∃ sq, e = .returned (.tuple #[sq, .bool true]) ∧ w'.ownsRow w.heap.size 31 7 sq qs.length (flatC lesC qs)) ∧ Below w.heap.size w w' := by
  obtain ⟨i0, hi, hz0, hz1, hz2⟩ := info_parts Tryd.infoLes
  have hl := okLs_len ho
  have hk : k < ps.length := hf.1
  have HC := Lib.hid (l11Find_yes v ps id w h k hf)
  have HQ := Lib.hid hq
  have HR := Lib.hid h
  have HO := Lib.hid ho
  have HF := Lib.hid hfit
  obtain ⟨a, cp, rfl⟩ := h.form
  obtain ⟨ad, rfl, hc⟩ : ∃ ad, a = some ad ∧ ∀ w', Below w.heap.size w w' → ∀ j u, (flatC lesC ps)[j]? = some u → w'.cell? (ad.add j) = some u := by
    rcases h.src lesC_len (by omega) with ⟨_, rfl⟩ | h'
    · simp at hk
    · exact h'
  have HSRC := Lib.hid hc
  clear h hq ho hf hfit hc
  have z1 : (0 : Int) ≤ (k : Int) := by omega
  have z2 : (k : Int) < (ps.length : Int) := by omega
  go_enter Tryd.func13, Tryd.ntmps13
  go_wp2_with fail
  refine (HC.out).mono ?_
  rintro e w2 ⟨rfl, hb2⟩
  have HB := Lib.hid hb2
  clear hb2
  go_wp2_with fail
  refine (l11Good_yes _ ps w2 (HR.out.below HB.out (Nat.le_refl _)) HO.out).mono ?_
  rintro e w3 ⟨rfl, hb3⟩
  have HB3 := Lib.hid (HB.out.trans (hb3.mono HB.out.size))
  clear hb3
  go_wp2_with fail
  refine (l11Fits_any _ ps k d b w3 (HR.out.below HB3.out (Nat.le_refl _)) hk true ⟨fun _ => HF.out, fun _ => rfl⟩).mono ?_
  rintro e w4 ⟨rfl, hb4⟩
  have HB4 := Lib.hid (HB3.out.trans (hb4.mono HB3.out.size))
  clear hb4
  go_wp2_with (at_builtin; refine wpList_append_own _ rfl _ _ 24 rfl w4.heap.size 31 i0 (.agg #[.int .i64 0, .int .i64 0, .int .i64 0, .int .i64 0, .int .i64 0, .int .i64 0, .int .i64 0]) 7 56 Tryd.underlying24 hi hz0 hz1 hz2 rfl (by decide) _ _ _ rfl (World.ownsRow_made w4 #[] 0 (Nat.le_refl _) (Nat.zero_le _) (by simp)) ad ps.length cp (flatC lesC ps) rfl ?qc1 ?qc2 ?qc3 ?qc4 ?qc5 ?qc6 ?_)
  case qc1 => exact flatC_len lesC_len ps
  case qc2 => exact HSRC.out _ (HB4.out.alloc HB4.out.size _)
  case qc3 => exact flatC_one lesC_one ps
  case qc4 => unfold maxLen; omega
  case qc5 => omega
  case qc6 => simp
  intro v' w5 hown hgrow hnil
  have hown' : w5.ownsRow w4.heap.size 31 7 v' ps.length (flatC lesC ps) := by simpa using hown
  have HB5 := Lib.hid ((HB4.out.alloc HB4.out.size _).grown hgrow (by have := HB4.out.size; simp; omega) (by intro k hk; have := HB4.out.size; simp [Value.ownBlock] at hk; omega))
  clear hown hgrow hnil
  obtain ⟨g, cap, rfl⟩ := own_some hown' (by omega)
  have lg : g < w5.heap.size := (hown'.lt g rfl).2
  have HG : Hid (w.heap.size ≤ g) := Lib.hid (Nat.le_trans HB4.out.size (hown'.lt g rfl).1)
  have HLK := Lib.hid (leD_at ps k hk)
  have hat : ∀ j, j < 7 → w5.cell? ⟨g, k * 7 + j, none⟩ = (lesC (leD ps k))[j]? := fun j hj => by
    rw [HLK.out, ← flatC_at lesC_len ps k hk j hj]
    exact hown'.cellAt _ (by omega)
  generalize leD ps k = q at hat HQ
  have p0 : w5.cell? ⟨g, k * 7, none⟩ = some (.int .i64 q.id) := hat 0 (by omega)
  have f0 : w5.frozen? ⟨g, k * 7, none⟩ = false := hown'.frozenAt _
  have p1 : w5.cell? ⟨g, k * 7 + 1, none⟩ = some (.int .i64 q.cls) := hat 1 (by omega)
  have f1 : w5.frozen? ⟨g, k * 7 + 1, none⟩ = false := hown'.frozenAt _
  have p2 : w5.cell? ⟨g, k * 7 + 2, none⟩ = some (.int .i64 q.tch) := hat 2 (by omega)
  have f2 : w5.frozen? ⟨g, k * 7 + 2, none⟩ = false := hown'.frozenAt _
  have p3 : w5.cell? ⟨g, k * 7 + 3, none⟩ = some (.int .i64 q.room) := hat 3 (by omega)
  have f3 : w5.frozen? ⟨g, k * 7 + 3, none⟩ = false := hown'.frozenAt _
  have p4 : w5.cell? ⟨g, k * 7 + 4, none⟩ = some (.int .i64 q.day) := hat 4 (by omega)
  have f4 : w5.frozen? ⟨g, k * 7 + 4, none⟩ = false := hown'.frozenAt _
  have p5 : w5.cell? ⟨g, k * 7 + 5, none⟩ = some (.int .i64 q.bgn) := hat 5 (by omega)
  have f5 : w5.frozen? ⟨g, k * 7 + 5, none⟩ = false := hown'.frozenAt _
  have p6 : w5.cell? ⟨g, k * 7 + 6, none⟩ = some (.int .i64 q.mins) := hat 6 (by omega)
  have f6 : w5.frozen? ⟨g, k * 7 + 6, none⟩ = false := hown'.frozenAt _
  have HO1 := Lib.hid hown'
  have HB1 := Lib.hid HB5.out
  have hne : g ≠ w5.heap.size := by omega
  clear hat hown'
  go_wp2_with fail
  go_ret2
  have HS : Hid ((ps.set k (atL q d b)).length = ps.length) := Lib.hid List.length_set
  refine ⟨⟨_, rfl, ?_⟩, ((((((((HB1.out.setCell (p := ⟨g, k * 7, none⟩) HG.out (.int .i64 q.id)).setCell (p := ⟨g, k * 7 + 1, none⟩) HG.out (.int .i64 q.cls)).setCell (p := ⟨g, k * 7 + 2, none⟩) HG.out (.int .i64 q.tch)).setCell (p := ⟨g, k * 7 + 3, none⟩) HG.out (.int .i64 q.room)).setCell (p := ⟨g, k * 7 + 4, none⟩) HG.out (.int .i64 d)).setCell (p := ⟨g, k * 7 + 5, none⟩) HG.out (.int .i64 b)).setCell (p := ⟨g, k * 7 + 6, none⟩) HG.out (.int .i64 q.mins))).alloc (by simpa using HB1.out.size) _⟩
  rw [HQ.out, HS.out]
  have ho := ((((((((HO1.out.stored (k * 7) (.int .i64 q.id)).1.stored (k * 7 + 1) (.int .i64 q.cls)).1.stored (k * 7 + 2) (.int .i64 q.tch)).1.stored (k * 7 + 3) (.int .i64 q.room)).1.stored (k * 7 + 4) (.int .i64 d)).1.stored (k * 7 + 5) (.int .i64 b)).1.stored (k * 7 + 6) (.int .i64 q.mins)).1).alloc (.cells #[.int .i64 q.id, .int .i64 q.cls, .int .i64 q.tch, .int .i64 q.room, .int .i64 d, .int .i64 b, .int .i64 q.mins] 31)
  exact own_mono (own_eq ho (lesC_set ps k hk (atL q d b))) HB4.out.size
theorem specShift_any (v : Value) (ps : List Les) (id d b : Int) (w : World) (h : RowsR 7 lesC w v ps) (qs : List Les) (t : Bool) (hs : ShF ps id d b qs t) :
    Calls Tryd.prog 13 #[v, .int .i64 id, .int .i64 d, .int .i64 b] w fun e w' => (∃ sq, e = .returned (.tuple #[sq, .bool t]) ∧ w'.ownsRow w.heap.size 31 7 sq qs.length (flatC lesC qs)) ∧ Below w.heap.size w w' := by
  rcases hs with ⟨k, h1, h2, h3, h4, rfl⟩ | ⟨h1, h2, h3⟩
  · exact specShift_yes v ps id d b w h k h1 h2 h3 qs h4
  · exact specShift_no v ps id d b w h qs t h1 ⟨h2, h3⟩
end Go.Proofs.YtblbeoeklkcamaaDoor
