/- Ints in fresh memory, wherever in a block they lie (an array in a struct too): read, kept, marked. -/
import Derived.Test.YtjkjaadcdolbhaaInts
import Derived.Test.YtjkjaadcdolbhaaAdb
namespace Go.Proofs.Ytjkjaadcdolbhaa
set_option linter.unusedVariables false
open Go.RowKit

def OcR (lo hi : Nat) (w : World) (v : Value) (xs : List Int) : Prop :=
  ∃ a cap, v = .slice a xs.length cap ∧ (xs.length ≤ cap ∧ cap ≤ maxLen) ∧ (0 < xs.length → ∃ g off T cs, a = some ⟨g, off, none⟩ ∧ (lo ≤ g ∧ g < hi) ∧ w.heap[g]? = some (.cells cs T (0, 0)) ∧ ∀ (i : Nat) (h : i < xs.length), cs[off + i]? = some (.int .i64 xs[i]))
theorem OcR.form {lo hi : Nat} {w : World} {v : Value} {xs : List Int} (h : OcR lo hi w v xs) : ∃ a cap, v = .slice a xs.length cap := by
  obtain ⟨a, cap, h1, _⟩ := h
  exact ⟨a, cap, h1⟩
theorem OcR.keep {lo hi : Nat} {w w' : World} {v : Value} {xs : List Int} (h : OcR lo hi w v xs) (hk : ∀ g, lo ≤ g → g < hi → g < w.heap.size → w'.heap[g]? = w.heap[g]?) : OcR lo hi w' v xs := by
  obtain ⟨a, cap, h1, h2, h3⟩ := h
  refine ⟨a, cap, h1, h2, fun h0 => ?_⟩
  obtain ⟨g, off, T, cs, e1, e2, e3, e4⟩ := h3 h0
  exact ⟨g, off, T, cs, e1, e2, (hk g e2.1 e2.2 (Array.getElem?_eq_some_iff.1 e3).1).trans e3, e4⟩
theorem OcR.next {lo hi : Nat} {w w' : World} {v : Value} {xs : List Int} (h : OcR lo hi w v xs) (hb : Below w.heap.size w w') : OcR lo hi w' v xs := h.keep fun g _ _ h3 => hb.block g h3
theorem OcR.btw {lo hi a b : Nat} {w w' : World} {v : Value} {xs : List Int} (h : OcR lo hi w v xs) (hm : Btw a b w w') (hd : hi ≤ a ∨ b ≤ lo) : OcR lo hi w' v xs :=
  h.keep fun g h1 h2 h3 => hm.block g (by omega)
theorem OcR.reads {lo hi : Nat} {w : World} {v : Value} {xs : List Int} (h : OcR lo hi w v xs) : RowsR 1 inC w v xs := by
  obtain ⟨a, cap, h1, h2, h3⟩ := h
  refine ⟨a, cap, h1, ⟨by omega, h2.1⟩, fun h0 => ?_⟩
  obtain ⟨g, off, T, cs, e1, e2, e3, e4⟩ := h3 h0
  refine ⟨g, off, e1, (Array.getElem?_eq_some_iff.1 e3).1, fun i hi j hj => ?_⟩
  have hj0 : j = 0 := by omega
  subst hj0
  have := e4 i hi
  simp [World.cell?, e3, inC, this]
theorem OcR.of_own {lo : Nat} {w : World} {e : TypeId} {v : Value} {xs : List Int} (h : w.ownsRow lo e 1 v xs.length (flatC inC xs)) : OcR lo w.heap.size w v xs := by
  have h' := h
  rcases h.2 with ⟨rfl, h0⟩ | ⟨g, cap, cur, rfl, hb, hg, hnc, hc, hsz, ht⟩
  · exact ⟨none, 0, by rw [h0], by rw [h0]; exact ⟨Nat.le_refl _, Nat.zero_le _⟩, fun h1 => absurd h1 (by omega)⟩
  · refine ⟨_, cap, rfl, ⟨hnc, hc⟩, fun _ => ⟨g, 0, e, cur, rfl, ⟨hb, (h'.lt g rfl).2⟩, hg, fun i hi => ?_⟩⟩
    have h1 := h'.cellAt i (by omega)
    have h2 := flatC_at inC_len xs i hi 0 (by omega)
    rw [Nat.mul_one, Nat.add_zero] at h2
    rw [h2] at h1
    rw [Nat.zero_add]
    simp only [World.cell?, hg] at h1
    simpa [inC] using h1
/-- The kinds in an addition's box. -/
theorem ocr_box {w w' : World} {g : Nat} {x0 x1 x2 x3 x4 : Value} {j0 j1 j2 j3 : Int} {T : TypeId} (hh : w'.heap[g]? = some (.cells #[x0, x1, x2, x3, x4, .int .i64 j0, .int .i64 j1, .int .i64 j2, .int .i64 j3] T (0, 0))) (h1 : w.heap.size ≤ g) (h2 : g < w'.heap.size) :
    OcR w.heap.size w'.heap.size w' (.slice (some ⟨g, 5, none⟩) 4 4) [j0, j1, j2, j3] := by
  refine ⟨_, 4, rfl, ⟨by simp, by unfold maxLen; omega⟩, fun _ => ⟨g, 5, T, _, rfl, ⟨h1, h2⟩, hh, fun i hi => ?_⟩⟩
  have hi4 : i < 4 := by simpa using hi
  rcases (by omega : i = 0 ∨ i = 1 ∨ i = 2 ∨ i = 3) with rfl | rfl | rfl | rfl <;> rfl
theorem goK_len : ∀ (ds : List Int) (i : Nat) (rs : List (Int × Int)) (ks : List Int), (goK i ds rs ks).length = ks.length
  | [], _, _, _ => rfl
  | d :: ds, i, rs, ks => by
    unfold goK; rw [goK_len ds]; split
    · exact List.length_set
    · rfl
set_option maxRecDepth 100000 in
set_option maxHeartbeats 1600000 in
theorem markIntS_oc (v : Value) (n : Nat) (k : Int) (lo hi : Nat) (xs : List Int) (w : World) (h : OcR lo hi w v xs) (hx : xs.length = n) (hn : n ≤ 1048576) (hk : 0 ≤ k ∧ k ≤ 9000000) :
    Calls Try.prog 58 #[v, .int .i64 k] w fun en w' => en = .returned (.int .i64 (k + n)) ∧ OcR lo hi w' v (mksI k n) ∧ Btw lo hi w w' := by
  obtain ⟨hk0, hk1⟩ := hk
  obtain ⟨a, cap, rfl, hcp, hc⟩ := h
  rw [hx] at hcp
  have HC := Lib.hid hc
  have HX := Lib.hid hx
  rw [hx]
  clear hc
  go_enter Try.func58, Try.ntmps58
  go_wp2_with fail
  go_loopw [5, 1] (fun i kk wr => ∃ (m : Nat), m ≤ n ∧ i = .int .i64 m ∧ kk = .int .i64 (k + (m : Int)) ∧ (0 < n → ∃ g off T cs, a = some ⟨g, off, none⟩ ∧ (lo ≤ g ∧ g < hi) ∧ wr.heap[g]? = some (.cells cs T (0, 0)) ∧ (∀ (i : Nat), i < n → i < m → cs[off + i]? = some (.int .i64 (k + (i : Int)))) ∧ (∀ (i : Nat), i < n → (cs[off + i]?).isSome = true)) ∧ Btw lo hi w wr) (fun i _ _ => n - (intOf i).toNat)
  case atStart =>
    refine ⟨0, Nat.zero_le _, rfl, by simp, fun h0 => ?_, Btw.refl _ _ _⟩
    obtain ⟨g, off, T, cs, e1, e2, e3, e4⟩ := HC.out (by rw [HX.out]; exact h0)
    exact ⟨g, off, T, cs, e1, e2, e3, fun i _ hi => by omega, fun i hi => by rw [e4 i (by rw [HX.out]; exact hi)]; rfl⟩
  case round =>
    obtain ⟨m, hm, rfl, rfl, hrow, hbt⟩ := hrel
    have HB := Lib.hid hbt
    have HR := Lib.hid hrow
    by_cases hlt : m < n
    · have z1 : (0 : Int) ≤ (m : Int) := by omega
      have z2 : (m : Int) < (n : Int) := by omega
      obtain ⟨g, off, T, cs, rfl, e2, e3, e4, e5⟩ := hrow (by omega)
      obtain ⟨u0, hu⟩ := Option.isSome_iff_exists.1 (e5 m hlt)
      have c0 : wr.cell? ⟨g, off + m, none⟩ = some u0 := by simp [World.cell?, e3, hu]
      have f0 : wr.frozen? ⟨g, off + m, none⟩ = false := by simp [World.frozen?, e3]
      have E2 := Lib.hid e2
      have E3 := Lib.hid e3
      have E4 := Lib.hid e4
      have E5 := Lib.hid e5
      clear hbt hrow e2 e3 e4 e5 hu
      go_wp2_with fail
      go_roundw
      case rel =>
        refine ⟨m + 1, by omega, by go_num, by congr 1; omega, fun _ => ⟨g, off, T, cs.setIfInBounds (off + m) (.int .i64 (k + m)), rfl, E2.out, ?_, fun i hi hi2 => ?_, fun i hi => ?_⟩, HB.out.setCell (p := ⟨g, off + m, none⟩) E2.out.1 E2.out.2 _⟩
        · exact heap_setCell_same wr g (off + m) _ _ _ E3.out
        · obtain ⟨u1, hu1⟩ := Option.isSome_iff_exists.1 (E5.out m hlt)
          have hsz := (Array.getElem?_eq_some_iff.1 hu1).1
          by_cases e : i = m
          · subst e
            rw [Array.getElem?_setIfInBounds_self_of_lt hsz]
          · rw [Array.getElem?_setIfInBounds_ne (by omega)]
            exact E4.out i hi (by omega)
        · by_cases e : i = m
          · subst e
            obtain ⟨u1, hu1⟩ := Option.isSome_iff_exists.1 (E5.out i hlt)
            rw [Array.getElem?_setIfInBounds_self_of_lt (Array.getElem?_eq_some_iff.1 hu1).1]
            rfl
          · rw [Array.getElem?_setIfInBounds_ne (by omega)]
            exact E5.out i hi
      case measure => simp [intOf]; omega
    · have hmn : m = n := by omega
      subst hmn
      have HF : Hid (OcR lo hi wr (.slice a m cap) (mksI k m)) := Lib.hid (by
        refine ⟨a, cap, by rw [mksI_len], by rw [mksI_len]; exact hcp, fun h0 => ?_⟩
        rw [mksI_len] at h0
        obtain ⟨g, off, T, cs, e1, e2, e3, e4, e5⟩ := hrow h0
        refine ⟨g, off, T, cs, e1, e2, e3, fun i hi => ?_⟩
        rw [mksI_at]
        rw [mksI_len] at hi
        exact e4 i hi hi)
      clear hbt hrow
      go_wp2_with fail
      go_ret
      exact ⟨rfl, HF.out, HB.out⟩
end Go.Proofs.Ytjkjaadcdolbhaa
