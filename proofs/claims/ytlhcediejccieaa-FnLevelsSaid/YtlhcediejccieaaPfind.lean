/- The model's place of a pupil in a list. -/
import Derived.Test.YtlhcediejccieaaPgood
import Derived.Test.YtlhcediejccieaaPwith
namespace Go.Proofs.Ytlhcediejccieaa
set_option linter.unusedVariables false
open Go.RowKit

/-- Where the pupil with an Id is: at k, the first such place. -/
def fndAt (ps : List Pu) (id : Int) (k : Nat) : Prop := ∃ h : k < ps.length, ps[k].id = id ∧ ∀ j (hj : j < ps.length), j < k → ps[j].id ≠ id
def fndNo (ps : List Pu) (id : Int) : Prop := ∀ j (hj : j < ps.length), ps[j].id ≠ id
theorem fnd_or (ps : List Pu) (id : Int) : (∃ k, fndAt ps id k) ∨ fndNo ps id := by
  obtain ⟨p, hp, h1, h2⟩ := first_bad' ps.length (fun i h => ps[i].id ≠ id)
  by_cases hlt : p < ps.length
  · exact .inl ⟨p, hlt, Classical.not_not.1 (h2 hlt), h1⟩
  · exact .inr fun j hj => h1 j hj (by omega)
theorem okL_len {ps : List Pu} (h : okL ps) : ps.length ≤ 12 := h.2.2
theorem okL_id {ps : List Pu} (h : okL ps) (k : Nat) (hk : k < ps.length) : 1 ≤ ps[k].id ∧ ps[k].id ≤ 999 := (h.1 k hk).1.1
theorem okL_lvl {ps : List Pu} (h : okL ps) (k : Nat) (hk : k < ps.length) : 0 ≤ ps[k].lvl ∧ ps[k].lvl ≤ 10 := (h.1 k hk).1.2.2.2.2
theorem okL_cls {ps : List Pu} (h : okL ps) (k : Nat) (hk : k < ps.length) : 0 ≤ ps[k].cls ∧ ps[k].cls ≤ 9 := (h.1 k hk).1.2.2.2.1
theorem okL_born {ps : List Pu} (h : okL ps) (k : Nat) (hk : k < ps.length) : 1900 ≤ ps[k].born ∧ ps[k].born ≤ 2100 := (h.1 k hk).1.2.2.1

set_option maxRecDepth 100000 in
set_option maxHeartbeats 1600000 in
theorem l3Find_bad (v : Value) (ps : List Pu) (id : Int) (w : World) (h : RowsR 5 puC w v ps) (hs : ∀ p ∈ ps, p.name.size ≤ maxLen) (hl : ps.length ≤ 1048576) (ho : ¬ okL ps) :
    Calls Try.prog 40 #[v, .int .i64 id] w fun e w' => e = .returned (.int .i64 (-1)) ∧ Below w.heap.size w w' := by
  obtain ⟨a, cp, rfl⟩ := h.form
  have HN := Lib.hid ho
  have HS := Lib.hid hs
  have HR := Lib.hid h
  clear h hs ho
  go_enter Try.func40, Try.ntmps40
  go_wp2_with fail
  go_loopw [5] (fun i wr => i = .int .i64 0 ∧ Below w.heap.size w wr) (fun i _ => 0)
  case atStart => exact ⟨rfl, Below.refl _ _⟩
  case round =>
    obtain ⟨rfl, hb⟩ := hrel
    have HB := Lib.hid hb
    clear hb
    by_cases hlt : 0 < ps.length
    · go_wp2_with fail
      refine (l3Good_no _ ps _ (HR.out.below HB.out (Nat.le_refl _)) HS.out hl HN.out).mono ?_
      rintro e w2 ⟨rfl, hb2⟩
      go_wp2_with fail
      go_ret
      exact ⟨rfl, HB.out.trans (hb2.mono HB.out.size)⟩
    · go_wp2_with fail
      go_ret
      exact ⟨rfl, HB.out⟩
set_option maxRecDepth 100000 in
set_option maxHeartbeats 1600000 in
theorem l3Find_scan (v : Value) (ps : List Pu) (id : Int) (w : World) (h : RowsR 5 puC w v ps) (hs : ∀ p ∈ ps, p.name.size ≤ maxLen) (ho : okL ps) (K : Nat) (hK : K ≤ ps.length) (hpre : ∀ j (hj : j < ps.length), j < K → ps[j].id ≠ id) (hx : ∀ hj : K < ps.length, ps[K].id = id) (r : Int) (hr1 : K < ps.length → r = K) (hr2 : ¬ K < ps.length → r = -1) :
    Calls Try.prog 40 #[v, .int .i64 id] w fun e w' => e = .returned (.int .i64 r) ∧ Below w.heap.size w w' := by
  obtain ⟨a, cp, rfl⟩ := h.form
  have hl12 := okL_len ho
  have R1 := Lib.hid h.at
  have HO := Lib.hid ho
  have HS := Lib.hid hs
  have HR := Lib.hid h
  have HP := Lib.hid hpre
  have HX := Lib.hid hx
  have HR1 := Lib.hid hr1
  have HR2 := Lib.hid hr2
  clear h hs ho hpre hx hr1 hr2
  go_enter Try.func40, Try.ntmps40
  go_wp2_with fail
  go_loopw [5] (fun i wr => ∃ n : Nat, n ≤ K ∧ i = .int .i64 n ∧ Below w.heap.size w wr) (fun i _ => ps.length - (intOf i).toNat)
  case atStart => exact ⟨0, Nat.zero_le _, rfl, Below.refl _ _⟩
  case round =>
    obtain ⟨n, hn, rfl, hb⟩ := hrel
    have HB := Lib.hid hb
    clear hb
    by_cases hlt : n < ps.length
    · have z1 : (0 : Int) ≤ (n : Int) := by omega
      have z2 : (n : Int) < (ps.length : Int) := by omega
      have HC := Lib.hid (fun w' (hb' : Below w.heap.size w w') => l3Good_yes _ ps w' (HR.out.below hb' (Nat.le_refl _)) HS.out (by omega) HO.out)
      go_wp2_with fail
      refine (HC.out _ HB.out).mono ?_
      rintro e w2 ⟨rfl, hb2⟩
      have HB2 : Hid (Below w.heap.size w w2) := Lib.hid (HB.out.trans (hb2.mono HB.out.size))
      clear hb2
      obtain ⟨b1, o1, rfl, l1, k1⟩ := R1.out _ HB2.out n hlt
      have p0 : w2.cell? ⟨b1, o1 + n * 5, none⟩ = some (.int .i64 ps[n].id) := k1 0 (by omega)
      clear k1
      by_cases hq : ps[n].id = id
      · have HE : Hid (n = K) := Lib.hid (by
          rcases Nat.lt_or_ge n K with h' | h'
          · exact absurd hq (HP.out n hlt h')
          · omega)
        rw [hq] at p0
        clear hq
        go_wp2_with fail
        go_ret
        exact ⟨ret_int (by rw [HR1.out (by have := HE.out; omega), HE.out]), HB2.out⟩
      · have hqb : (ps[n].id == id) = false := by rw [beq_eq_false_iff_ne]; exact hq
        have HE : Hid (n < K) := Lib.hid (by
          rcases Nat.lt_or_ge n K with h' | h'
          · exact h'
          · obtain rfl : n = K := by omega
            exact absurd (HX.out hlt) hq)
        clear hq
        go_wp2_with fail
        go_roundw
        case rel => exact ⟨n + 1, HE.out, by go_num, HB2.out⟩
        case measure => simp [intOf]; omega
    · have HE : Hid (¬ K < ps.length) := Lib.hid (by omega)
      go_wp2_with fail
      go_ret
      exact ⟨ret_int (HR2.out HE.out).symm, HB.out⟩
theorem l3Find_yes (v : Value) (ps : List Pu) (id : Int) (w : World) (h : RowsR 5 puC w v ps) (hs : ∀ p ∈ ps, p.name.size ≤ maxLen) (ho : okL ps) (k : Nat) (hk : fndAt ps id k) :
    Calls Try.prog 40 #[v, .int .i64 id] w fun e w' => e = .returned (.int .i64 k) ∧ Below w.heap.size w w' :=
  l3Find_scan v ps id w h hs ho k (Nat.le_of_lt hk.1) hk.2.2 (fun _ => hk.2.1) k (fun _ => rfl) (fun h => absurd hk.1 h)
theorem l3Find_no (v : Value) (ps : List Pu) (id : Int) (w : World) (h : RowsR 5 puC w v ps) (hs : ∀ p ∈ ps, p.name.size ≤ maxLen) (hl : ps.length ≤ 1048576) (hn : okL ps → fndNo ps id) :
    Calls Try.prog 40 #[v, .int .i64 id] w fun e w' => e = .returned (.int .i64 (-1)) ∧ Below w.heap.size w w' := by
  by_cases ho : okL ps
  · exact l3Find_scan v ps id w h hs ho ps.length (Nat.le_refl _) (fun j hj _ => hn ho j hj) (fun h => absurd h (Nat.lt_irrefl _)) (-1) (fun h => absurd h (Nat.lt_irrefl _)) (fun _ => rfl)
  · exact l3Find_bad v ps id w h hs hl ho
end Go.Proofs.Ytlhcediejccieaa
