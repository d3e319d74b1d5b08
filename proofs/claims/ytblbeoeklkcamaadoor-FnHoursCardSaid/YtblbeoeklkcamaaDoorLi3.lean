/- The program's ShiftLesson and FirstSlot. -/
import Derived.Test.YtblbeoeklkcamaaDoorLe3
import Derived.Test.YtblbeoeklkcamaaDoorLi2
import Derived.Lib.SliceRun
namespace Go.Proofs.YtblbeoeklkcamaaDoor
set_option linter.unusedVariables false
open Go.RowKit

set_option maxRecDepth 100000 in
set_option maxHeartbeats 1600000 in
theorem cloneLe_any (v : Value) (ps : List Les) (w : World) (h : RowsR 7 lesC w v ps) (hn : ps.length ≤ 1048576) :
    Calls Tryd.prog 33 #[v] w fun e w' => (∃ v', e = .returned v' ∧ w'.ownsRow w.heap.size 31 7 v' ps.length (flatC lesC ps)) ∧ Below w.heap.size w w' := by
  obtain ⟨i0, hi, hz0, hz1, hz2⟩ := info_parts Tryd.infoLes
  obtain ⟨a, c, rfl⟩ := h.form
  have q22 : ∀ (w : World) (a : Option Addr) (n c n' c' : Nat), (binOp .eql 24 (.slice a n c) (.slice none n' c')).run Tryd.prog w = .ok (.bool a.isNone) w := fun w a n c n' c' => Lib.run_eql_slice_nil w _ _ a n c n' c' Tryd.underlying24
  rcases h.src lesC_len (by omega) with ⟨rfl, rfl⟩ | ⟨ad, rfl, hc⟩
  · clear h
    go_enter Tryd.func33, Tryd.ntmps33
    go_wp2_with fail
    go_ret
    exact ⟨⟨_, rfl, own_nil' _ _ _ _⟩, Below.refl _ _⟩
  · have HC := Lib.hid hc
    clear hc h
    go_enter Tryd.func33, Tryd.ntmps33
    go_wp2_with (at_builtin; refine wpList_append_own _ rfl _ _ 24 rfl w.heap.size 31 i0 (.agg #[.int .i64 0, .int .i64 0, .int .i64 0, .int .i64 0, .int .i64 0, .int .i64 0, .int .i64 0]) 7 56 Tryd.underlying24 hi hz0 hz1 hz2 rfl (by decide) _ _ _ rfl (World.ownsRow_made w #[] 0 (Nat.le_refl _) (Nat.zero_le _) (by simp)) ad ps.length c (flatC lesC ps) rfl ?qc1 ?qc2 ?qc3 ?qc4 ?qc5 ?qc6 ?_)
    case qc1 => exact flatC_len lesC_len ps
    case qc2 => exact HC.out _ ((Below.refl _ w).alloc (Nat.le_refl _) _)
    case qc3 => exact flatC_one lesC_one ps
    case qc4 => unfold maxLen; omega
    case qc5 => omega
    case qc6 => simp
    intro v' w1 hown hgrow hnil
    have HO := Lib.hid hown
    have HB := Lib.hid (((Below.refl _ w).alloc (Nat.le_refl _) _).grown hgrow (by simp) (by intro k hk; simp [Value.ownBlock] at hk; omega))
    clear hown hgrow hnil
    go_wp2
    go_ret
    exact ⟨⟨v', rfl, by simpa using HO.out⟩, HB.out⟩
set_option maxRecDepth 100000 in
set_option maxHeartbeats 800000 in
theorem implShift_no (v : Value) (ps : List Les) (id d b : Int) (w : World) (h : RowsR 7 lesC w v ps) (qs : List Les) (t : Bool) (hn : ¬ ∃ k, okLs ps ∧ fndAt ps id k) (hq : qs = [] ∧ t = false) :
    Calls Tryd.prog 12 #[v, .int .i64 id, .int .i64 d, .int .i64 b] w fun e w' => (∃ sq, e = .returned (.tuple #[sq, .bool t]) ∧ w'.ownsRow w.heap.size 31 7 sq qs.length (flatC lesC qs)) ∧ Below w.heap.size w w' := by
  have HT := Lib.hid hq
  obtain ⟨r, tt, hi⟩ := idxF_or ps id
  obtain rfl : tt = false := by
    rcases hi with ⟨h1, k, h2, _⟩ | ⟨_, _, _, h⟩ | ⟨_, _, h⟩
    · exact absurd ⟨k, h1, h2⟩ hn
    · exact h
    · exact h
  have HC := Lib.hid (lessonIndex_any v ps id w h r false hi)
  obtain ⟨a, cp, rfl⟩ := h.form
  clear h hn hq hi
  go_enter Tryd.func12, Tryd.ntmps12
  go_wp2_with fail
  refine (HC.out).mono ?_
  rintro e w2 ⟨rfl, hb2⟩
  have HB := Lib.hid hb2
  clear hb2
  go_wp2_with fail
  go_ret2
  refine ⟨⟨_, by rw [HT.out.2]; rfl, ?_⟩, HB.out.alloc HB.out.size _⟩
  rw [HT.out.1]
  exact World.ownsRow_made (base := w.heap.size) (e := 31) (size := 7) _ #[] 0 HB.out.size (Nat.zero_le _) (by simp)
set_option maxRecDepth 100000 in
set_option maxHeartbeats 3200000 in
theorem implShift_k (v : Value) (ps : List Les) (id d b : Int) (w : World) (h : RowsR 7 lesC w v ps) (k : Nat) (ho : okLs ps) (hf : fndAt ps id k) (qs : List Les) (t : Bool) (ht : (fitP ps k d b ∧ qs = ps.set k (atL (leD ps k) d b) ∧ t = true) ∨ (¬ fitP ps k d b ∧ qs = [] ∧ t = false)) :
    Calls Tryd.prog 12 #[v, .int .i64 id, .int .i64 d, .int .i64 b] w fun e w' => (∃ sq, e = .returned (.tuple #[sq, .bool t]) ∧ w'.ownsRow w.heap.size 31 7 sq qs.length (flatC lesC qs)) ∧ Below w.heap.size w w' := by
  have hk : k < ps.length := hf.1
  have hl := okLs_len ho
  have HC := Lib.hid (lessonIndex_any v ps id w h k true (.inl ⟨ho, k, hf, rfl, rfl⟩))
  have HR := Lib.hid h
  have hq0 := okLs_at ho k hk
  have HLK := Lib.hid (leD_at ps k hk)
  have hat := okLe_at hq0 d b
  obtain ⟨a, cp, rfl⟩ := h.form
  have R1 := Lib.hid h.at
  have z1 : (0 : Int) ≤ (k : Int) := by omega
  have z2 : (k : Int) < (ps.length : Int) := by omega
  by_cases hx : okLe (atL (leD ps k) d b)
  · have HFS := Lib.hid (fit_set (d := d) (b := b) ho hk hx)
    have HTM : Hid ((0 ≤ d ∧ d ≤ 6) ∧ okTm b (leD ps k).mins) := Lib.hid (by rw [HLK.out]; exact (okLe_at hq0 d b).1 (by rw [← HLK.out]; exact hx))
    have HT := Lib.hid ht
    have HLL := Lib.hid (show (ps.set k (atL (leD ps k) d b)).length = ps.length from List.length_set)
    have HSET : Hid (((flatC lesC ps).set (k * 7 + 4) (.int .i64 d)).set (k * 7 + 5) (.int .i64 b) = flatC lesC (ps.set k (atL (leD ps k) d b))) := Lib.hid (by
      have h1 := flatC_set1 lesC_len ps k 4 hk (by omega) (.int .i64 d) { ps[k] with day := d } rfl
      have h2 := flatC_set1 lesC_len (ps.set k { ps[k] with day := d }) k 5 (by simpa using hk) (by omega) (.int .i64 b) (atL ps[k] d b) (by rw [List.getElem_set_self]; rfl)
      rw [List.set_set] at h2
      rw [h1, h2, HLK.out])
    clear h ho hf hq0 hat ht hx
    go_enter Tryd.func12, Tryd.ntmps12
    go_wp2_with fail
    refine (HC.out).mono ?_
    rintro e w2 ⟨rfl, hb2⟩
    have HB := Lib.hid hb2
    obtain ⟨b1, o1, rfl, l1, k1⟩ := R1.out _ hb2 k hk
    rw [← HLK.out] at k1
    generalize hqk : leD ps k = q at k1 HTM
    have p0 : w2.cell? ⟨b1, o1 + k * 7, none⟩ = some (.int .i64 q.id) := k1 0 (by omega)
    have p1 : w2.cell? ⟨b1, o1 + k * 7 + 1, none⟩ = some (.int .i64 q.cls) := k1 1 (by omega)
    have p2 : w2.cell? ⟨b1, o1 + k * 7 + 2, none⟩ = some (.int .i64 q.tch) := k1 2 (by omega)
    have p3 : w2.cell? ⟨b1, o1 + k * 7 + 3, none⟩ = some (.int .i64 q.room) := k1 3 (by omega)
    have p4 : w2.cell? ⟨b1, o1 + k * 7 + 4, none⟩ = some (.int .i64 q.day) := k1 4 (by omega)
    have p5 : w2.cell? ⟨b1, o1 + k * 7 + 5, none⟩ = some (.int .i64 q.bgn) := k1 5 (by omega)
    have p6 : w2.cell? ⟨b1, o1 + k * 7 + 6, none⟩ = some (.int .i64 q.mins) := k1 6 (by omega)
    clear k1 hb2
    go_wp2_with fail
    refine (isTime_any d b q.mins w2 true ⟨fun _ => HTM.out, fun _ => rfl⟩).mono ?_
    rintro e w' ⟨rfl, hw⟩
    subst w'
    clear p0 p1 p2 p3 p4 p5 p6
    go_wp2_with fail
    refine (cloneLe_any _ ps w2 (HR.out.below HB.out (Nat.le_refl _)) (by omega)).mono ?_
    rintro e w3 ⟨⟨v', rfl, hown⟩, hb3⟩
    have HB3 : Hid (Below w.heap.size w w3) := Lib.hid (HB.out.trans (hb3.mono HB.out.size))
    clear hb3
    obtain ⟨g, cap, rfl⟩ := own_some hown (by omega)
    have HG : Hid (w2.heap.size ≤ g) := Lib.hid (hown.lt g rfl).1
    have hat : ∀ j, j < 7 → w3.cell? ⟨g, k * 7 + j, none⟩ = (lesC q)[j]? := fun j hj => by
      rw [← hqk, HLK.out, ← flatC_at lesC_len ps k hk j hj]
      exact hown.cellAt _ (by omega)
    rw [hqk] at HFS HSET HLL HT
    obtain ⟨qq, hqq⟩ : ∃ L, ps.set k (atL q d b) = L := ⟨_, rfl⟩
    rw [hqq] at HFS HSET HLL HT
    clear hqk
    have p0 : w3.cell? ⟨g, k * 7, none⟩ = some (.int .i64 q.id) := hat 0 (by omega)
    have p1 : w3.cell? ⟨g, k * 7 + 1, none⟩ = some (.int .i64 q.cls) := hat 1 (by omega)
    have p2 : w3.cell? ⟨g, k * 7 + 2, none⟩ = some (.int .i64 q.tch) := hat 2 (by omega)
    have p3 : w3.cell? ⟨g, k * 7 + 3, none⟩ = some (.int .i64 q.room) := hat 3 (by omega)
    have p4 : w3.cell? ⟨g, k * 7 + 4, none⟩ = some (.int .i64 q.day) := hat 4 (by omega)
    have p5 : w3.cell? ⟨g, k * 7 + 5, none⟩ = some (.int .i64 q.bgn) := hat 5 (by omega)
    have p6 : w3.cell? ⟨g, k * 7 + 6, none⟩ = some (.int .i64 q.mins) := hat 6 (by omega)
    have f4 : w3.frozen? ⟨g, k * 7 + 4, none⟩ = false := hown.frozenAt _
    have f5 : w3.frozen? ⟨g, k * 7 + 5, none⟩ = false := hown.frozenAt _
    have HO := Lib.hid (own_relen' HLL.out (own_eq ((hown.stored (k * 7 + 4) (.int .i64 d)).1.stored (k * 7 + 5) (.int .i64 b)).1 HSET.out))
    have HB4 : Hid (Below w.heap.size w ((w3.setCell ⟨g, k * 7 + 4, none⟩ (.int .i64 d)).setCell ⟨g, k * 7 + 5, none⟩ (.int .i64 b))) := Lib.hid ((HB3.out.setCell (p := ⟨g, k * 7 + 4, none⟩) (Nat.le_trans HB.out.size HG.out) _).setCell (p := ⟨g, k * 7 + 5, none⟩) (Nat.le_trans HB.out.size HG.out) _)
    clear hown hat hqq
    by_cases hfit : fitP ps k d b
    · have HQ : Hid (qs = qq ∧ t = true) := Lib.hid (by
        rcases HT.out with ⟨_, h⟩ | ⟨hn, _⟩
        · exact h
        · exact absurd hfit hn)
      have HCW : Hid (∀ w', RowsR 7 lesC w' (.slice (some ⟨g, 0, none⟩) ps.length cap) qq → Calls Tryd.prog 34 #[.agg #[.int .i64 q.id, .int .i64 q.cls, .int .i64 q.tch, .int .i64 q.room, .int .i64 d, .int .i64 b, .int .i64 q.mins], .slice (some ⟨g, 0, none⟩) ps.length cap] w' fun e w'' => e = .returned (.bool false) ∧ Below w'.heap.size w' w'') := Lib.hid (fun w' hr => clashesWith_any (atL q d b) _ qq w' hr false ⟨fun e => by simp at e, fun e => absurd hfit (HFS.out.1 e)⟩)
      have HRO : Hid (RowsR 7 lesC ((w3.setCell ⟨g, k * 7 + 4, none⟩ (.int .i64 d)).setCell ⟨g, k * 7 + 5, none⟩ (.int .i64 b)) (.slice (some ⟨g, 0, none⟩) ps.length cap) qq) := Lib.hid (RowsR.of_own lesC_len HO.out |> fun h => by rw [HLL.out] at *; exact h)
      clear hfit
      go_wp2_with fail
      generalize ((w3.setCell ⟨g, k * 7 + 4, none⟩ (.int .i64 d)).setCell ⟨g, k * 7 + 5, none⟩ (.int .i64 b)) = w4 at HO HB4 HRO ⊢
      refine (HCW.out w4 HRO.out).mono ?_
      rintro e w5 ⟨rfl, hb5⟩
      have HO5 := Lib.hid (own_below HO.out hb5)
      have HB5 : Hid (Below w.heap.size w w5) := Lib.hid (HB4.out.trans (hb5.mono HB4.out.size))
      clear hb5 p0 p1 p2 p3 p4 p5 p6 f4 f5
      go_wp2_with fail
      go_ret2
      refine ⟨⟨_, by rw [HQ.out.2]; rfl, ?_⟩, HB5.out⟩
      rw [HQ.out.1]
      have := own_mono HO5.out HB.out.size
      rw [HLL.out] at this ⊢
      exact this
    · have HQ : Hid (qs = [] ∧ t = false) := Lib.hid (by
        rcases HT.out with ⟨h, _⟩ | ⟨_, h⟩
        · exact absurd h hfit
        · exact h)
      have HCW : Hid (∀ w', RowsR 7 lesC w' (.slice (some ⟨g, 0, none⟩) ps.length cap) qq → Calls Tryd.prog 34 #[.agg #[.int .i64 q.id, .int .i64 q.cls, .int .i64 q.tch, .int .i64 q.room, .int .i64 d, .int .i64 b, .int .i64 q.mins], .slice (some ⟨g, 0, none⟩) ps.length cap] w' fun e w'' => e = .returned (.bool true) ∧ Below w'.heap.size w' w'') := Lib.hid (fun w' hr => clashesWith_any (atL q d b) _ qq w' hr true ⟨fun _ => HFS.out.2 hfit, fun _ => rfl⟩)
      have HRO : Hid (RowsR 7 lesC ((w3.setCell ⟨g, k * 7 + 4, none⟩ (.int .i64 d)).setCell ⟨g, k * 7 + 5, none⟩ (.int .i64 b)) (.slice (some ⟨g, 0, none⟩) ps.length cap) qq) := Lib.hid (RowsR.of_own lesC_len HO.out |> fun h => by rw [HLL.out] at *; exact h)
      clear hfit
      go_wp2_with fail
      generalize ((w3.setCell ⟨g, k * 7 + 4, none⟩ (.int .i64 d)).setCell ⟨g, k * 7 + 5, none⟩ (.int .i64 b)) = w4 at HO HB4 HRO ⊢
      refine (HCW.out w4 HRO.out).mono ?_
      rintro e w5 ⟨rfl, hb5⟩
      have HB5 : Hid (Below w.heap.size w w5) := Lib.hid (HB4.out.trans (hb5.mono HB4.out.size))
      clear hb5 p0 p1 p2 p3 p4 p5 p6 f4 f5 HT
      have HT := Lib.hid HQ.out
      go_wp2_with fail
      go_ret2
      refine ⟨⟨_, by rw [HT.out.2]; rfl, ?_⟩, HB5.out.alloc HB5.out.size _⟩
      rw [HT.out.1]
      exact World.ownsRow_made (base := w.heap.size) (e := 31) (size := 7) _ #[] 0 HB5.out.size (Nat.zero_le _) (by simp)
  · have HT : Hid (qs = [] ∧ t = false) := Lib.hid (by
      rcases ht with ⟨h, _⟩ | ⟨_, h⟩
      · exact absurd h.1 hx
      · exact h)
    have HTM : Hid (¬ ((0 ≤ d ∧ d ≤ 6) ∧ okTm b (leD ps k).mins)) := Lib.hid (by rw [HLK.out] at hx ⊢; exact fun e => hx ((okLe_at hq0 d b).2 e))
    clear h ho hf hq0 hat ht hx
    go_enter Tryd.func12, Tryd.ntmps12
    go_wp2_with fail
    refine (HC.out).mono ?_
    rintro e w2 ⟨rfl, hb2⟩
    have HB := Lib.hid hb2
    obtain ⟨b1, o1, rfl, l1, k1⟩ := R1.out _ hb2 k hk
    rw [← HLK.out] at k1
    generalize hqk : leD ps k = q at k1 HTM
    have p0 : w2.cell? ⟨b1, o1 + k * 7, none⟩ = some (.int .i64 q.id) := k1 0 (by omega)
    have p1 : w2.cell? ⟨b1, o1 + k * 7 + 1, none⟩ = some (.int .i64 q.cls) := k1 1 (by omega)
    have p2 : w2.cell? ⟨b1, o1 + k * 7 + 2, none⟩ = some (.int .i64 q.tch) := k1 2 (by omega)
    have p3 : w2.cell? ⟨b1, o1 + k * 7 + 3, none⟩ = some (.int .i64 q.room) := k1 3 (by omega)
    have p4 : w2.cell? ⟨b1, o1 + k * 7 + 4, none⟩ = some (.int .i64 q.day) := k1 4 (by omega)
    have p5 : w2.cell? ⟨b1, o1 + k * 7 + 5, none⟩ = some (.int .i64 q.bgn) := k1 5 (by omega)
    have p6 : w2.cell? ⟨b1, o1 + k * 7 + 6, none⟩ = some (.int .i64 q.mins) := k1 6 (by omega)
    clear k1 hb2 hqk
    go_wp2_with fail
    refine (isTime_any d b q.mins w2 false ⟨fun e => by simp at e, fun e => absurd e HTM.out⟩).mono ?_
    rintro e w' ⟨rfl, hw⟩
    subst w'
    clear p0 p1 p2 p3 p4 p5 p6
    go_wp2_with fail
    go_ret2
    refine ⟨⟨_, by rw [HT.out.2]; rfl, ?_⟩, HB.out.alloc HB.out.size _⟩
    rw [HT.out.1]
    exact World.ownsRow_made (base := w.heap.size) (e := 31) (size := 7) _ #[] 0 HB.out.size (Nat.zero_le _) (by simp)
theorem implShift_any (v : Value) (ps : List Les) (id d b : Int) (w : World) (h : RowsR 7 lesC w v ps) (qs : List Les) (t : Bool) (hs : ShF ps id d b qs t) :
    Calls Tryd.prog 12 #[v, .int .i64 id, .int .i64 d, .int .i64 b] w fun e w' => (∃ sq, e = .returned (.tuple #[sq, .bool t]) ∧ w'.ownsRow w.heap.size 31 7 sq qs.length (flatC lesC qs)) ∧ Below w.heap.size w w' := by
  by_cases hn : ∃ k, okLs ps ∧ fndAt ps id k
  · obtain ⟨k, ho, hk⟩ := hn
    refine implShift_k v ps id d b w h k ho hk qs t ?_
    rcases hs with ⟨k', h1, h2, h3, h4, h5⟩ | ⟨h1, h2, h3⟩
    · obtain rfl := fnd_one hk h2
      exact .inl ⟨h3, h4, h5⟩
    · exact .inr ⟨fun hf => h1 ⟨k, ho, hk, hf⟩, h2, h3⟩
  · refine implShift_no v ps id d b w h qs t hn ?_
    rcases hs with ⟨k', h1, h2, _⟩ | ⟨_, h2, h3⟩
    · exact absurd ⟨k', h1, h2⟩ hn
    · exact ⟨h2, h3⟩
end Go.Proofs.YtblbeoeklkcamaaDoor
